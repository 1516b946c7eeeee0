/- Unclass and Unliteral: for every text, whatever map stands there. -/
import Derived.Test.YtjaklcmadkpmdaaDoorQuoZb
import Derived.Test.YtjaklcmadkpmdaaDoorQuoSc
import Derived.Test.YtjaklcmadkpmdaaDoorQuoSd
import Derived.Test.YtjaklcmadkpmdaaDoorQuoSe
import Derived.Test.YtjaklcmadkpmdaaDoorQuoF
section
namespace Go.Proofs.YtjaklcmadkpmdaaDoor
open Go Go.RowKit Go.Shelf

/-- The map is of no account. -/
def Rd.rz (r : Rd) (m : Value) : Rd := { r with mp := m }
theorem digit_rz (r : Rd) (m : Value) : (r.rz m).digit = (r.digit.1, r.digit.2.rz m) := by
  unfold Rd.digit
  show (if r.e ≠ 0 then (0, r.rz m) else match r.cur with
    | some c => if 0 ≤ hexZ c then (hexZ c, r.up.rz m) else (0, r.bad.rz m)
    | none => (0, r.bad.rz m)) = _
  by_cases he : r.e = 0
  · rw [if_neg (by simpa using he), if_neg (by simpa using he)]
    cases r.cur with
    | none => rfl
    | some c =>
      dsimp only
      split <;> rfl
  · rw [if_pos he, if_pos he]
theorem sign_rz (cls : Bool) (r : Rd) (m : Value) : (r.rz m).sign cls = ((r.sign cls).1, (r.sign cls).2.rz m) := by
  unfold Rd.sign
  show (match r.cur with
    | none => ((0 : UInt8), r.bad.rz m)
    | some c => if beginsB cls c = false then (0, r.bad.rz m) else if c.toNat ≠ 92 then (c, r.up.rz m)
      else if r.up.next 120 = true then (UInt8.ofNat (r.up.up.rz m).hex.1.toNat, (r.up.up.rz m).hex.2)
      else match r.up.cur with
        | none => (0, r.up.bad.rz m)
        | some d => match findP (behL cls) d.toNat with
          | some v => (UInt8.ofNat v, r.up.up.rz m)
          | none => (0, r.up.bad.rz m)) = _
  have hx : (r.up.up.rz m).hex = (r.up.up.hex.1, r.up.up.hex.2.rz m) := by
    unfold Rd.hex
    rw [digit_rz]
    dsimp only
    rw [digit_rz]
  rw [hx]
  cases r.cur with
  | none => rfl
  | some c =>
    dsimp only
    split
    · rfl
    · split
      · rfl
      · split
        · rfl
        · cases r.up.cur with
          | none => rfl
          | some d =>
            dsimp only
            cases findP (behL cls) d.toNat <;> rfl
theorem lit_rz (cls : Bool) (q : UInt8) (m : Value) : ∀ (n : Nat) (r : Rd), (r.rz m).lit cls q n = ((r.lit cls q n).1, (r.lit cls q n).2.rz m)
  | 0, r => rfl
  | n + 1, r => by
    rw [Rd.lit, Rd.lit]
    show (match r.cur with
      | none => (([] : List UInt8), r.bad.rz m)
      | some c => if c = q then ([], r.up.rz m) else if ((r.rz m).sign cls).2.e ≠ 0 then ([], ((r.rz m).sign cls).2) else (((r.rz m).sign cls).1 :: (((r.rz m).sign cls).2.lit cls q n).1, (((r.rz m).sign cls).2.lit cls q n).2)) = _
    rw [sign_rz]
    dsimp only
    rw [lit_rz cls q m n]
    cases r.cur with
    | none => rfl
    | some c =>
      dsimp only
      split
      · rfl
      · show (if (r.sign cls).2.e ≠ 0 then _ else _) = _
        split <;> rfl
theorem unl_mbz (t : ByteArray) (mb n : Nat) : unl t mb n = unl t 0 n := by
  have h0 : (rd0 false t mb).expect 34 = ((rd0 false t 0).expect 34).rz (.map (some mb)) := by
    unfold Rd.expect
    show (if (rd0 false t 0).e ≠ 0 then (rd0 false t 0).rz _ else if (rd0 false t 0).next 34 = true then (rd0 false t 0).up.rz _ else (rd0 false t 0).bad.rz _) = _
    split
    · rfl
    · split <;> rfl
  unfold unl
  rw [h0]
  dsimp only
  rw [lit_rz]
  rfl


theorem expect_bad {r : Rd} {c : UInt8} (h : r.e ≠ 0) : r.expect c = r := by rw [Rd.expect, if_pos h]
theorem uncl_mb (t : ByteArray) (mb n : Nat) : uncl t mb n = uncl t 0 n := by
  have h0 : Sim 0 (rd0 true t mb) (rd0 true t 0) := ⟨rfl, rfl, rfl⟩
  have h1 := h0.expect 91
  unfold uncl
  dsimp only
  rw [h1.e, h1.next 94]
  generalize (decide (((rd0 true t 0).expect 91).e = 0) && ((rd0 true t 0).expect 91).next 94) = b
  have h2 : Sim 0 (if b = true then ((rd0 true t mb).expect 91).up else (rd0 true t mb).expect 91) (if b = true then ((rd0 true t 0).expect 91).up else (rd0 true t 0).expect 91) := by
    cases b
    · exact h1
    · exact h1.up
  obtain ⟨k1, k2, k3⟩ := h2.items n S4.nil
  generalize (if b = true then ((rd0 true t mb).expect 91).up else (rd0 true t mb).expect 91).items n S4.nil = p at k1 k2 k3 ⊢
  generalize (if b = true then ((rd0 true t 0).expect 91).up else (rd0 true t 0).expect 91).items n S4.nil = q at k1 k2 k3 ⊢
  have h3 : SimE 0 (p.2.expect 93) (q.2.expect 93) := by
    by_cases hq : q.2.e = 0
    · have := (k3 hq).expect 93
      exact ⟨this.at_, this.e⟩
    · rw [expect_bad hq, expect_bad (by rw [k2.e]; exact hq)]
      exact k2
  rw [k1, h3.e, show (p.2.expect 93).at' = (q.2.expect 93).at' from h3.at_]
theorem unclass_at {W0 w : World} (hI : Inv W0) (hb0 : Below W0.heap.size W0 w) (t : ByteArray) (hs : t.size ≤ 20000) (n : Nat) (hn : t.size < n) :
    Calls Tryd.prog 14 #[.string t] w fun e w' => e = .returned (unclV (uncl t 0 n)) ∧ Below w.heap.size w w' := by
  have key : ∀ mb, ((rd0 true t mb).expect 91).e = ((rd0 true t 0).expect 91).e ∧ ((rd0 true t mb).expect 91).next 94 = ((rd0 true t 0).expect 91).next 94 := fun mb => by
    have h0 : Sim 0 (rd0 true t mb) (rd0 true t 0) := ⟨rfl, rfl, rfl⟩
    have h1 := h0.expect 91
    exact ⟨h1.e, h1.next 94⟩
  have fin : ∀ {e : Ending} {w' : World}, ((∃ mb, e = .returned (unclV (uncl t mb n))) ∧ Below w.heap.size w w') → e = .returned (unclV (uncl t 0 n)) ∧ Below w.heap.size w w' := by
    rintro e w' ⟨⟨mb, rfl⟩, hb⟩
    rw [uncl_mb]
    exact ⟨rfl, hb⟩
  by_cases he : ((rd0 true t 0).expect 91).e = 0
  · cases hx : ((rd0 true t 0).expect 91).next 94 with
    | false => exact (unclass_plain hI hb0 t hs n hn (fun mb => by rw [(key mb).1, (key mb).2]; exact ⟨he, hx⟩)).mono fun _ _ h => fin h
    | true => exact (unclass_other hI hb0 t hs n hn (fun mb => by rw [(key mb).1, (key mb).2]; exact ⟨he, hx⟩)).mono fun _ _ h => fin h
  · exact (unclass_err hI hb0 t hs n hn (fun mb => by rw [(key mb).1]; exact he)).mono fun _ _ h => fin h
theorem unliteral_atz {W0 w : World} (hI : Inv W0) (hb0 : Below W0.heap.size W0 w) (t : ByteArray) (hs : t.size ≤ 20000) :
    Calls Tryd.prog 10 #[.string t] w fun e w' => e = .returned (unlV (unl t 0 (t.size + 1))) ∧ Below w.heap.size w w' :=
  (unliteral_any hI hb0 t hs _ (Nat.lt_succ_self _)).mono fun e w' h => by
    obtain ⟨⟨mb, rfl⟩, hb⟩ := h
    rw [unl_mbz]
    exact ⟨rfl, hb⟩
end Go.Proofs.YtjaklcmadkpmdaaDoor
end
section
namespace Go.Proofs.YtjaklcmadkpmdaaDoor
open Go Go.RowKit Go.Shelf
set_option linter.unusedSimpArgs false
set_option linter.unusedVariables false

theorem Box4.more {W : World} {g : Nat} {s : S4} (h : Box4 W g s) (o : Obj) : Box4 (W.alloc o) g s := by
  have hlt := h.lt
  unfold Box4 at h ⊢
  exact (Below.heap_alloc _ _ _ hlt).trans h

set_option maxRecDepth 100000 in
set_option maxHeartbeats 4000000 in
theorem short_a (t : ByteArray) (ht : t.size ≤ 3000) (W : World) (hI : Inv W) (s : ByteArray) (n e : Nat) (hU : unl t 0 (t.size + 1) = (s, n, e)) (x : S4) (m f : Nat) (hV : uncl t 0 (t.size + 2) = (x, m, f)) (he : e ≠ 0) (hf : f ≠ 0) :
    Calls Tryd.prog 7 #[.string t] W fun e w' => e = .returned (.bool true) ∧ Below W.heap.size W w' := by
  have HI := Lib.hid hI
  have HN := Lib.hid (Below.refl W.heap.size W)
  clear hI
  have hd : decide ((3000 : Int) < (t.size : Int)) = false := by simp; omega
  have HU := Lib.hid (show ∀ w, Below W.heap.size W w → Calls Tryd.prog 10 #[.string t] w fun e' w' => e' = .returned (.tuple #[.string s, .int .i64 n, .int .i64 e]) ∧ Below w.heap.size w w' from fun w hb => by have := unliteral_atz HI.out hb t (by omega); rw [hU] at this; exact this)
  have HV := Lib.hid (show ∀ w, Below W.heap.size W w → Calls Tryd.prog 14 #[.string t] w fun e' w' => e' = .returned (.tuple #[x.v, .int .i64 m, .int .i64 f]) ∧ Below w.heap.size w w' from fun w hb => by have := unclass_at HI.out hb t (by omega) (t.size + 2) (by omega); rw [hV] at this; exact this)
  have e1 : ((e : Int) == 0) = false := by rw [beq_eq_false_iff_ne]; omega
  have e2 : ((e : Int) != 0) = true := by rw [bne_iff_ne]; omega
  obtain ⟨rfl, hm⟩ := uncl_not hV hf
  have f1 : ((f : Int) == 0) = false := by rw [beq_eq_false_iff_ne]; omega
  have f2 : ((f : Int) != 0) = true := by rw [bne_iff_ne]; omega
  have f3 : decide ((0 : Int) ≤ (m : Int)) = true := by simp
  have f4 : decide ((m : Int) ≤ (t.size : Int)) = true := by simp; omega
  clear hU hV
  go_enter Tryd.func7, Tryd.ntmps7
  go_wp2_with (first | (go_at_call 8; refine (awake_any HI.out HN.out).mono ?_; rintro e' w1 ⟨rfl, hb1⟩; have HN1 := Lib.hid (bstep HN.out hb1); clear hb1) | (go_at_call 10; with_reducible refine (HU.out _ HN1.out).mono ?_; rintro e' w2 ⟨rfl, hb1⟩; have HN2 := Lib.hid (bstep HN1.out hb1); clear hb1) | (go_at_call 14; with_reducible refine (HV.out _ HN2.out).mono ?_; rintro e' w4 ⟨rfl, hb1⟩; have hN4 := bstep HN2.out hb1; clear hb1))
  go_ret
  exact ⟨rfl, hN4.alloc hN4.size _⟩

set_option maxRecDepth 100000 in
set_option maxHeartbeats 4000000 in
theorem short_b (t : ByteArray) (ht : t.size ≤ 3000) (W : World) (hI : Inv W) (s : ByteArray) (n e : Nat) (hU : unl t 0 (t.size + 1) = (s, n, e)) (x : S4) (m f : Nat) (hV : uncl t 0 (t.size + 2) = (x, m, f)) (he : e = 0) (hf : f ≠ 0) :
    Calls Tryd.prog 7 #[.string t] W fun e w' => e = .returned (.bool true) ∧ Below W.heap.size W w' := by
  have HI := Lib.hid hI
  have HN := Lib.hid (Below.refl W.heap.size W)
  clear hI
  have hd : decide ((3000 : Int) < (t.size : Int)) = false := by simp; omega
  have HU := Lib.hid (show ∀ w, Below W.heap.size W w → Calls Tryd.prog 10 #[.string t] w fun e' w' => e' = .returned (.tuple #[.string s, .int .i64 n, .int .i64 e]) ∧ Below w.heap.size w w' from fun w hb => by have := unliteral_atz HI.out hb t (by omega); rw [hU] at this; exact this)
  have HV := Lib.hid (show ∀ w, Below W.heap.size W w → Calls Tryd.prog 14 #[.string t] w fun e' w' => e' = .returned (.tuple #[x.v, .int .i64 m, .int .i64 f]) ∧ Below w.heap.size w w' from fun w hb => by have := unclass_at HI.out hb t (by omega) (t.size + 2) (by omega); rw [hV] at this; exact this)
  have HF := Lib.hid (show (litL s).length ≤ n ∧ s.size ≤ 255 from unl_long (by rw [hU, he]) (Nat.lt_succ_self _))
  obtain ⟨A, hA⟩ : ∃ A : ByteArray, A = ⟨(litL s).toArray⟩ := ⟨_, rfl⟩
  have HL := Lib.hid (show ∀ w, Below W.heap.size W w → Calls Tryd.prog 9 #[.string s] w fun e w' => e = .returned (.string A) ∧ Below w.heap.size w w' from fun w hb => by rw [hA]; exact literal_any HI.out hb s (by have := HF.out.2; omega))
  have hAs : A.size ≤ n := by rw [hA]; exact HF.out.1
  have hss := HF.out.2
  have e1 : ((e : Int) == 0) = true := by rw [beq_iff_eq]; omega
  have e2 : ((e : Int) != 0) = false := by rw [bne_eq_false_iff_eq]; omega
  have e3 : decide ((n : Int) < (A.size : Int)) = false := by simp; omega
  have e4 : decide ((255 : Int) < (s.size : Int)) = false := by simp; omega
  clear hA
  obtain ⟨rfl, hm⟩ := uncl_not hV hf
  have f1 : ((f : Int) == 0) = false := by rw [beq_eq_false_iff_ne]; omega
  have f2 : ((f : Int) != 0) = true := by rw [bne_iff_ne]; omega
  have f3 : decide ((0 : Int) ≤ (m : Int)) = true := by simp
  have f4 : decide ((m : Int) ≤ (t.size : Int)) = true := by simp; omega
  clear hU hV
  go_enter Tryd.func7, Tryd.ntmps7
  go_wp2_with (first | (go_at_call 8; refine (awake_any HI.out HN.out).mono ?_; rintro e' w1 ⟨rfl, hb1⟩; have HN1 := Lib.hid (bstep HN.out hb1); clear hb1) | (go_at_call 10; with_reducible refine (HU.out _ HN1.out).mono ?_; rintro e' w2 ⟨rfl, hb1⟩; have HN2 := Lib.hid (bstep HN1.out hb1); clear hb1) | (go_at_call 9; with_reducible refine (HL.out _ HN2.out).mono ?_; rintro e' w3 ⟨rfl, hb1⟩; have HN3 := Lib.hid (bstep HN2.out hb1); clear hb1) | (go_at_call 14; with_reducible refine (HV.out _ HN3.out).mono ?_; rintro e' w4 ⟨rfl, hb1⟩; have hN4 := bstep HN3.out hb1; clear hb1))
  go_ret
  exact ⟨rfl, hN4.alloc hN4.size _⟩

set_option maxRecDepth 100000 in
set_option maxHeartbeats 4000000 in
theorem short_c (t : ByteArray) (ht : t.size ≤ 3000) (W : World) (hI : Inv W) (s : ByteArray) (n e : Nat) (hU : unl t 0 (t.size + 1) = (s, n, e)) (x : S4) (m f : Nat) (hV : uncl t 0 (t.size + 2) = (x, m, f)) (he : e ≠ 0) (hf : f = 0) (h1t : 1 < t.size) (hc : t[1] ≠ 94) :
    Calls Tryd.prog 7 #[.string t] W fun e w' => e = .returned (.bool true) ∧ Below W.heap.size W w' := by
  have HI := Lib.hid hI
  have HN := Lib.hid (Below.refl W.heap.size W)
  clear hI
  have hd : decide ((3000 : Int) < (t.size : Int)) = false := by simp; omega
  have HU := Lib.hid (show ∀ w, Below W.heap.size W w → Calls Tryd.prog 10 #[.string t] w fun e' w' => e' = .returned (.tuple #[.string s, .int .i64 n, .int .i64 e]) ∧ Below w.heap.size w w' from fun w hb => by have := unliteral_atz HI.out hb t (by omega); rw [hU] at this; exact this)
  have HV := Lib.hid (show ∀ w, Below W.heap.size W w → Calls Tryd.prog 14 #[.string t] w fun e' w' => e' = .returned (.tuple #[x.v, .int .i64 m, .int .i64 f]) ∧ Below w.heap.size w w' from fun w hb => by have := unclass_at HI.out hb t (by omega) (t.size + 2) (by omega); rw [hV] at this; exact this)
  have e1 : ((e : Int) == 0) = false := by rw [beq_eq_false_iff_ne]; omega
  have e2 : ((e : Int) != 0) = true := by rw [bne_iff_ne]; omega
  subst hf
  obtain ⟨S, other, hC⟩ := uncl_is hV
  have hm2 := hC.two
  have hml := hC.le
  have h0 : 0 < t.size := by omega
  have h1 : 1 < t.size := by omega
  have hxo : x.ok := by rw [hC.set]; split; exact S4.ok_not hC.ok; exact hC.ok
  obtain ⟨q, rfl⟩ : ∃ q, m = q + 1 := ⟨m - 1, by omega⟩
  have hq : q < t.size := by omega
  have v0 : ((t[0].toNat : Int) != 91) = false := by rw [hC.first h0]; rfl
  have v9 : ((t[q].toNat : Int) != 93) = false := by have := hC.last hq; rw [show t[q] = 93 from this]; rfl
  have g0 : decide ((q : Int) + 1 < 2) = false := by simp; omega
  have g1 : (((q + 1 : Nat) : Int) - 1) = (q : Int) := by omega
  have g2 : IntKind.i64.wrap (((q + 1 : Nat) : Int) - 1) = (q : Int) := by rw [g1]; exact IntWalk.i64_in _ (by omega)
  have f1 : (((0 : Nat) : Int) == 0) = true := rfl
  have hl : t.data.toList = (91 : UInt8) :: t[1] :: t.data.toList.drop 2 := by
    have e0 : t.data.toList[0]? = some 91 := by rw [Array.getElem?_toList, Array.getElem?_eq_getElem (show 0 < t.data.size from h0)]; exact congrArg some (hC.first h0)
    have e1 : t.data.toList[1]? = some t[1] := by rw [Array.getElem?_toList, Array.getElem?_eq_getElem (show 1 < t.data.size from h1)]; rfl
    rcases hx : t.data.toList with _ | ⟨a, _ | ⟨b, l⟩⟩
    · rw [hx] at e0; cases e0
    · rw [hx] at e1; cases e1
    · rw [hx] at e0 e1
      simp only [List.getElem?_cons_zero, List.getElem?_cons_succ, Option.some.injEq] at e0 e1
      rw [e0, e1]
      rfl
  have tl : t.size = t.data.toList.length := by rw [Array.length_toList]; rfl
  have hO : other = false := by
    cases other
    · rfl
    · exact absurd ((hC.second h1).2 rfl) hc
  obtain ⟨O, hOe⟩ : ∃ O : ByteArray, O = ⟨#[91, 94]⟩ ++ t.extract 1 t.size := ⟨_, rfl⟩
  have hOl : O.data.toList = (91 : UInt8) :: 94 :: t[1] :: t.data.toList.drop 2 := by
    rw [hOe, ByteArray.data_append, ByteArray.data_extract, Array.toList_append, Array.toList_extract, List.extract_eq_take_drop, hl, tl, hl]
    simp
    rw [List.take_of_length_le (by rw [List.length_drop, ← tl]; exact Nat.le_refl _)]
  have hOs : O.size = t.size + 1 := by rw [hOe, ByteArray.size_append, ByteArray.size_extract]; show 2 + _ = _; omega
  obtain ⟨k, hk, hkm⟩ := uncl_flip (u := O) (mb' := 0) (n' := t.size + 2) hV (by omega) rfl (.inr ⟨t[1], _, hc, hl, hOl⟩)
  have HO := Lib.hid (show ∀ w, Below W.heap.size W w → Calls Tryd.prog 14 #[.string (⟨#[91, 94]⟩ ++ t.extract 1 t.size)] w fun e' w' => e' = .returned (.tuple #[x.not.v, .int .i64 k, .int .i64 0]) ∧ Below w.heap.size w w' from fun w hb => by have := unclass_at HI.out hb O (by omega) (t.size + 2) (by omega); rw [hk, hOe] at this; exact this)
  obtain ⟨C, hCe⟩ : ∃ C : ByteArray, C = ⟨(clsL x).toArray⟩ := ⟨_, rfl⟩
  have HC := Lib.hid (show ∀ w, Below W.heap.size W w → Calls Tryd.prog 13 #[x.v] w fun e w' => e = .returned (.string C) ∧ Below w.heap.size w w' from fun w hb => by rw [hCe]; exact class_any HI.out hb x hxo)
  have hCs : C.size ≤ q + 1 := by
    have h1 := hC.short hO
    have h2 := hC.set
    rw [hO] at h2
    rw [hCe, h2]
    exact h1
  have c1 : decide ((q : Int) + 1 < (C.size : Int)) = false := by simp; omega
  have w1 : ((t[1].toNat : Int) != 94) = true := by rw [bne_iff_ne]; intro h; exact hc (u8_eq (by show t[1].toNat = 94; omega))
  have w2 : ((t[1].toNat : Int) == 94) = false := by rw [beq_eq_false_iff_ne]; intro h; exact hc (u8_eq (by show t[1].toNat = 94; omega))
  have hkl : k = q + 2 := by omega
  have HNT := Lib.hid (show ∀ w : World, Calls Tryd.prog 18 #[x.v] w fun e' w' => e' = .returned x.not.v ∧ Below w.heap.size w w' from fun w => not_any x hxo w)
  have s1 : (2 : Nat) + (t.size - 1) = t.size + 1 := by omega
  subst hkl
  clear hU hV hk hkm hOe hOl hOs hCe hl tl hC hO hc hxo hm2 hml
  go_enter Tryd.func7, Tryd.ntmps7
  go_wp2_with (first | (go_at_call 8; refine (awake_any HI.out HN.out).mono ?_; rintro e' w1 ⟨rfl, hb1⟩; have HN1 := Lib.hid (bstep HN.out hb1); clear hb1) | (go_at_call 10; with_reducible refine (HU.out _ HN1.out).mono ?_; rintro e' w2 ⟨rfl, hb1⟩; have HN2 := Lib.hid (bstep HN1.out hb1); clear hb1) | (go_at_call 14; with_reducible refine (HV.out _ HN2.out).mono ?_; rintro e' w4 ⟨rfl, hb1⟩; have hN4 := bstep HN2.out hb1; clear hb1; have hbx := Box4.new w4 x; have hNX := hN4.alloc hN4.size (.cells #[.int .u64 x.a, .int .u64 x.b, .int .u64 x.c, .int .u64 x.d] 31); obtain ⟨z0, z1, z2, z3⟩ := hbx.cells) | (go_at_call 13; with_reducible refine (HC.out _ hNX).mono ?_; rintro e' w5 ⟨rfl, hb1⟩; have hbx := hbx.below hb1 hbx.lt; have hNX := bstep hNX hb1; clear hb1 z0 z1 z2 z3; obtain ⟨z0, z1, z2, z3⟩ := hbx.cells) | (go_at_call 14; with_reducible refine (HO.out _ hNX).mono ?_; rintro e' w6 ⟨rfl, hb1⟩; have hbx := (hbx.below hb1 hbx.lt).more (.cells #[.int .u64 x.not.a, .int .u64 x.not.b, .int .u64 x.not.c, .int .u64 x.not.d] 31); have hNX := bstep hNX hb1; have hNX := hNX.alloc hNX.size (.cells #[.int .u64 x.not.a, .int .u64 x.not.b, .int .u64 x.not.c, .int .u64 x.not.d] 31); clear hb1 z0 z1 z2 z3; obtain ⟨z0, z1, z2, z3⟩ := hbx.cells; have hby := Box4.new w6 x.not; obtain ⟨y0, y1, y2, y3⟩ := hby.cells))
  refine wp_region_held_drew (S := (fun w' => w'.cell? ⟨w6.heap.size, 0, none⟩ = some (.int .u64 x.not.a) ∧ w'.cell? ⟨w6.heap.size, 1, none⟩ = some (.int .u64 x.not.b) ∧ w'.cell? ⟨w6.heap.size, 2, none⟩ = some (.int .u64 x.not.c) ∧ w'.cell? ⟨w6.heap.size, 3, none⟩ = some (.int .u64 x.not.d) ∧ w'.cell? ⟨w4.heap.size, 0, none⟩ = some (.int .u64 x.a) ∧ w'.cell? ⟨w4.heap.size, 1, none⟩ = some (.int .u64 x.b) ∧ w'.cell? ⟨w4.heap.size, 2, none⟩ = some (.int .u64 x.c) ∧ w'.cell? ⟨w4.heap.size, 3, none⟩ = some (.int .u64 x.d))) (by kernel_rfl) ⟨y0, y1, y2, y3, z0, z1, z2, z3⟩ (fun hHeld => ?_)
  refine wpAnyH_take (i := 0) (v := ?_) rfl (by kernel_rfl) (by kernel_rfl) (by kernel_rfl) (fun _ _ _ h => h) (Or.inl ⟨by kernel_rfl, ?_⟩) (by assumption) ?_
  rotate_left
  · (intro w hSw; (try dsimp only at hSw); go_simp; (try with_reducible rfl))
  try simp only [Act.put, List.getElem_toArray, List.getElem_cons_zero, List.getElem_cons_succ, List.setIfInBounds_toArray, List.set_cons_zero, List.set_cons_succ]
  refine wpAnyH_take (i := 1) (v := ?_) rfl (by kernel_rfl) (by kernel_rfl) (by kernel_rfl) (fun _ _ _ h => h) (Or.inl ⟨by kernel_rfl, ?_⟩) (by assumption) ?_
  rotate_left
  · (intro w hSw; (try dsimp only at hSw); go_simp; (try with_reducible rfl))
  try simp only [Act.put, List.getElem_toArray, List.getElem_cons_zero, List.getElem_cons_succ, List.setIfInBounds_toArray, List.set_cons_zero, List.set_cons_succ]
  refine wpAnyH_take (i := 2) (v := ?_) rfl (by kernel_rfl) (by kernel_rfl) (by kernel_rfl) (fun _ _ _ h => h) (Or.inl ⟨by kernel_rfl, ?_⟩) (by assumption) ?_
  rotate_left
  · (intro w hSw; (try dsimp only at hSw); go_simp; (try with_reducible rfl))
  try simp only [Act.put, List.getElem_toArray, List.getElem_cons_zero, List.getElem_cons_succ, List.setIfInBounds_toArray, List.set_cons_zero, List.set_cons_succ]
  refine wpAnyH_take (i := 3) (v := ?_) rfl (by kernel_rfl) (by kernel_rfl) (by kernel_rfl) (fun _ _ _ h => h) (Or.inl ⟨by kernel_rfl, ?_⟩) (by assumption) ?_
  rotate_left
  · (intro w hSw; (try dsimp only at hSw); go_simp; (try with_reducible rfl))
  try simp only [Act.put, List.getElem_toArray, List.getElem_cons_zero, List.getElem_cons_succ, List.setIfInBounds_toArray, List.set_cons_zero, List.set_cons_succ]
  refine wpAnyH_take (i := 4) (v := ?_) rfl (by kernel_rfl) (by kernel_rfl) (by kernel_rfl) (fun _ _ _ h => h) (Or.inl ⟨by kernel_rfl, ?_⟩) (by assumption) ?_
  rotate_left
  · (intro w hSw; (try dsimp only at hSw); go_simp; (try with_reducible rfl))
  try simp only [Act.put, List.getElem_toArray, List.getElem_cons_zero, List.getElem_cons_succ, List.setIfInBounds_toArray, List.set_cons_zero, List.set_cons_succ]
  refine wpAnyH_ready (rs := [5]) (by kernel_rfl) (by simp) (AllReadyH.cons rfl (fun K hK => ?_) AllReadyH.nil)
  go_simp
  go_at_call 18
  refine (HNT.out _).mono ?_
  rintro e' w7 ⟨rfl, hb7⟩
  replace hb7 : Below (w6.alloc (.cells #[.int .u64 x.not.a, .int .u64 x.not.b, .int .u64 x.not.c, .int .u64 x.not.d] 31)).heap.size (w6.alloc (.cells #[.int .u64 x.not.a, .int .u64 x.not.b, .int .u64 x.not.c, .int .u64 x.not.d] 31)) w7 := (Below.refl _ (w6.alloc (.cells #[.int .u64 x.not.a, .int .u64 x.not.b, .int .u64 x.not.c, .int .u64 x.not.d] 31))).drew.trans hb7
  obtain ⟨p0, p1, p2, p3⟩ := (hbx.below hb7 hbx.lt).cells
  obtain ⟨r0, r1, r2, r3⟩ := (hby.below hb7 hby.lt).cells
  have hN7 := bstep hNX hb7
  clear hHeld
  refine hK.out _ _ ⟨r0, r1, r2, r3, p0, p1, p2, p3⟩ (fun hHeld => ?_)
  clear hK K
  try simp only [Act.put, List.getElem_toArray, List.getElem_cons_zero, List.getElem_cons_succ, List.setIfInBounds_toArray, List.set_cons_zero, List.set_cons_succ]
  refine wpAnyH_take (i := 6) (v := ?_) rfl (by kernel_rfl) (by kernel_rfl) (by kernel_rfl) (fun _ _ _ h => h) (Or.inl ⟨by kernel_rfl, ?_⟩) (by assumption) ?_
  rotate_left
  · (intro w hSw; (try dsimp only at hSw); go_simp; (try with_reducible rfl))
  try simp only [Act.put, List.getElem_toArray, List.getElem_cons_zero, List.getElem_cons_succ, List.setIfInBounds_toArray, List.set_cons_zero, List.set_cons_succ]
  refine wpAnyH_take (i := 7) (v := ?_) rfl (by kernel_rfl) (by kernel_rfl) (by kernel_rfl) (fun _ _ _ h => h) (Or.inl ⟨by kernel_rfl, ?_⟩) (by assumption) ?_
  rotate_left
  · (intro w hSw; (try dsimp only at hSw); go_simp; (try with_reducible rfl))
  try simp only [Act.put, List.getElem_toArray, List.getElem_cons_zero, List.getElem_cons_succ, List.setIfInBounds_toArray, List.set_cons_zero, List.set_cons_succ]
  refine wpAnyH_take (i := 8) (v := ?_) rfl (by kernel_rfl) (by kernel_rfl) (by kernel_rfl) (fun _ _ _ h => h) (Or.inl ⟨by kernel_rfl, ?_⟩) (by assumption) ?_
  rotate_left
  · (intro w hSw; (try dsimp only at hSw); go_simp; (try with_reducible rfl))
  try simp only [Act.put, List.getElem_toArray, List.getElem_cons_zero, List.getElem_cons_succ, List.setIfInBounds_toArray, List.set_cons_zero, List.set_cons_succ]
  refine wpAnyH_take (i := 9) (v := ?_) rfl (by kernel_rfl) (by kernel_rfl) (by kernel_rfl) (fun _ _ _ h => h) (Or.inl ⟨by kernel_rfl, ?_⟩) (by assumption) ?_
  rotate_left
  · (intro w hSw; (try dsimp only at hSw); go_simp; (try with_reducible rfl))
  try simp only [Act.put, List.getElem_toArray, List.getElem_cons_zero, List.getElem_cons_succ, List.setIfInBounds_toArray, List.set_cons_zero, List.set_cons_succ]
  refine wpAnyH_take (i := 10) (v := ?_) rfl (by kernel_rfl) (by kernel_rfl) (by kernel_rfl) (fun _ _ _ h => h) (Or.inl ⟨by kernel_rfl, ?_⟩) (by assumption) ?_
  rotate_left
  · (intro w hSw; (try dsimp only at hSw); go_simp; (try with_reducible rfl))
  try simp only [Act.put, List.getElem_toArray, List.getElem_cons_zero, List.getElem_cons_succ, List.setIfInBounds_toArray, List.set_cons_zero, List.set_cons_succ]
  refine wpAnyH_take (i := 11) (v := ?_) rfl (by kernel_rfl) (by kernel_rfl) (by kernel_rfl) (fun _ _ _ h => h) (Or.inl ⟨by kernel_rfl, ?_⟩) (by assumption) ?_
  rotate_left
  · (intro w hSw; (try dsimp only at hSw); go_simp; (try with_reducible rfl))
  try simp only [Act.put, List.getElem_toArray, List.getElem_cons_zero, List.getElem_cons_succ, List.setIfInBounds_toArray, List.set_cons_zero, List.set_cons_succ]
  refine wpAnyH_take (i := 12) (v := ?_) rfl (by kernel_rfl) (by kernel_rfl) (by kernel_rfl) (fun _ _ _ h => h) (Or.inl ⟨by kernel_rfl, ?_⟩) (by assumption) ?_
  rotate_left
  · (intro w hSw; (try dsimp only at hSw); go_simp; (try with_reducible rfl))
  try simp only [Act.put, List.getElem_toArray, List.getElem_cons_zero, List.getElem_cons_succ, List.setIfInBounds_toArray, List.set_cons_zero, List.set_cons_succ]
  refine wpAnyH_take (i := 13) (v := ?_) rfl (by kernel_rfl) (by kernel_rfl) (by kernel_rfl) (fun _ _ _ h => h) (Or.inl ⟨by kernel_rfl, ?_⟩) (by assumption) ?_
  rotate_left
  · (intro w hSw; (try dsimp only at hSw); go_simp; (try with_reducible rfl))
  try simp only [Act.put, List.getElem_toArray, List.getElem_cons_zero, List.getElem_cons_succ, List.setIfInBounds_toArray, List.set_cons_zero, List.set_cons_succ]
  refine wpAnyH_take (i := 14) (v := ?_) rfl (by kernel_rfl) (by kernel_rfl) (by kernel_rfl) (fun _ _ _ h => h) (Or.inl ⟨by kernel_rfl, ?_⟩) (by assumption) ?_
  rotate_left
  · (intro w hSw; (try dsimp only at hSw); go_simp; (try with_reducible rfl))
  try simp only [Act.put, List.getElem_toArray, List.getElem_cons_zero, List.getElem_cons_succ, List.setIfInBounds_toArray, List.set_cons_zero, List.set_cons_succ]
  refine wpAnyH_take (i := 15) (v := ?_) rfl (by kernel_rfl) (by kernel_rfl) (by kernel_rfl) (fun _ _ _ h => h) (Or.inl ⟨by kernel_rfl, ?_⟩) (by assumption) ?_
  rotate_left
  · (intro w hSw; (try dsimp only at hSw); go_simp; (try with_reducible rfl))
  try simp only [Act.put, List.getElem_toArray, List.getElem_cons_zero, List.getElem_cons_succ, List.setIfInBounds_toArray, List.set_cons_zero, List.set_cons_succ]
  refine wpAnyH_take (i := 16) (v := ?_) rfl (by kernel_rfl) (by kernel_rfl) (by kernel_rfl) (fun _ _ _ h => h) (Or.inl ⟨by kernel_rfl, ?_⟩) (by assumption) ?_
  rotate_left
  · (intro w hSw; (try dsimp only at hSw); go_simp; (try with_reducible rfl))
  try simp only [Act.put, List.getElem_toArray, List.getElem_cons_zero, List.getElem_cons_succ, List.setIfInBounds_toArray, List.set_cons_zero, List.set_cons_succ]
  refine wpAnyH_take (i := 17) (v := ?_) rfl (by kernel_rfl) (by kernel_rfl) (by kernel_rfl) (fun _ _ _ h => h) (Or.inl ⟨by kernel_rfl, ?_⟩) (by assumption) ?_
  rotate_left
  · (intro w hSw; (try dsimp only at hSw); go_simp; (try with_reducible rfl))
  try simp only [Act.put, List.getElem_toArray, List.getElem_cons_zero, List.getElem_cons_succ, List.setIfInBounds_toArray, List.set_cons_zero, List.set_cons_succ]
  refine wpAnyH_take (i := 18) (v := ?_) rfl (by kernel_rfl) (by kernel_rfl) (by kernel_rfl) (fun _ _ _ h => h) (Or.inl ⟨by kernel_rfl, ?_⟩) (by assumption) ?_
  rotate_left
  · (intro w hSw; (try dsimp only at hSw); go_simp; (try with_reducible rfl))
  try simp only [Act.put, List.getElem_toArray, List.getElem_cons_zero, List.getElem_cons_succ, List.setIfInBounds_toArray, List.set_cons_zero, List.set_cons_succ]
  refine wpAnyH_take (i := 19) (v := ?_) rfl (by kernel_rfl) (by kernel_rfl) (by kernel_rfl) (fun _ _ _ h => h) (Or.inl ⟨by kernel_rfl, ?_⟩) (by assumption) ?_
  rotate_left
  · (intro w hSw; (try dsimp only at hSw); go_simp; (try with_reducible rfl))
  try simp only [Act.put, List.getElem_toArray, List.getElem_cons_zero, List.getElem_cons_succ, List.setIfInBounds_toArray, List.set_cons_zero, List.set_cons_succ]
  refine wpAnyH_done (by kernel_rfl) ?_ _
  have hfin : (IntKind.i64.wrap ((q : Int) + 2 - ((q : Int) + 1)) == IntKind.i64.wrap ((t.size : Int) + 1 - (t.size : Int))) = true := by
    rw [show (q : Int) + 2 - ((q : Int) + 1) = (t.size : Int) + 1 - (t.size : Int) by omega]
    exact beq_self_eq_true _
  rw [hfin]
  go_wp2
  go_ret
  exact ⟨rfl, hN7⟩

set_option maxRecDepth 100000 in
set_option maxHeartbeats 4000000 in
theorem short_d (t : ByteArray) (ht : t.size ≤ 3000) (W : World) (hI : Inv W) (s : ByteArray) (n e : Nat) (hU : unl t 0 (t.size + 1) = (s, n, e)) (x : S4) (m f : Nat) (hV : uncl t 0 (t.size + 2) = (x, m, f)) (he : e = 0) (hf : f = 0) (h1t : 1 < t.size) (hc : t[1] ≠ 94) :
    Calls Tryd.prog 7 #[.string t] W fun e w' => e = .returned (.bool true) ∧ Below W.heap.size W w' := by
  have HI := Lib.hid hI
  have HN := Lib.hid (Below.refl W.heap.size W)
  clear hI
  have hd : decide ((3000 : Int) < (t.size : Int)) = false := by simp; omega
  have HU := Lib.hid (show ∀ w, Below W.heap.size W w → Calls Tryd.prog 10 #[.string t] w fun e' w' => e' = .returned (.tuple #[.string s, .int .i64 n, .int .i64 e]) ∧ Below w.heap.size w w' from fun w hb => by have := unliteral_atz HI.out hb t (by omega); rw [hU] at this; exact this)
  have HV := Lib.hid (show ∀ w, Below W.heap.size W w → Calls Tryd.prog 14 #[.string t] w fun e' w' => e' = .returned (.tuple #[x.v, .int .i64 m, .int .i64 f]) ∧ Below w.heap.size w w' from fun w hb => by have := unclass_at HI.out hb t (by omega) (t.size + 2) (by omega); rw [hV] at this; exact this)
  have HF := Lib.hid (show (litL s).length ≤ n ∧ s.size ≤ 255 from unl_long (by rw [hU, he]) (Nat.lt_succ_self _))
  obtain ⟨A, hA⟩ : ∃ A : ByteArray, A = ⟨(litL s).toArray⟩ := ⟨_, rfl⟩
  have HL := Lib.hid (show ∀ w, Below W.heap.size W w → Calls Tryd.prog 9 #[.string s] w fun e w' => e = .returned (.string A) ∧ Below w.heap.size w w' from fun w hb => by rw [hA]; exact literal_any HI.out hb s (by have := HF.out.2; omega))
  have hAs : A.size ≤ n := by rw [hA]; exact HF.out.1
  have hss := HF.out.2
  have e1 : ((e : Int) == 0) = true := by rw [beq_iff_eq]; omega
  have e2 : ((e : Int) != 0) = false := by rw [bne_eq_false_iff_eq]; omega
  have e3 : decide ((n : Int) < (A.size : Int)) = false := by simp; omega
  have e4 : decide ((255 : Int) < (s.size : Int)) = false := by simp; omega
  clear hA
  subst hf
  obtain ⟨S, other, hC⟩ := uncl_is hV
  have hm2 := hC.two
  have hml := hC.le
  have h0 : 0 < t.size := by omega
  have h1 : 1 < t.size := by omega
  have hxo : x.ok := by rw [hC.set]; split; exact S4.ok_not hC.ok; exact hC.ok
  obtain ⟨q, rfl⟩ : ∃ q, m = q + 1 := ⟨m - 1, by omega⟩
  have hq : q < t.size := by omega
  have v0 : ((t[0].toNat : Int) != 91) = false := by rw [hC.first h0]; rfl
  have v9 : ((t[q].toNat : Int) != 93) = false := by have := hC.last hq; rw [show t[q] = 93 from this]; rfl
  have g0 : decide ((q : Int) + 1 < 2) = false := by simp; omega
  have g1 : (((q + 1 : Nat) : Int) - 1) = (q : Int) := by omega
  have g2 : IntKind.i64.wrap (((q + 1 : Nat) : Int) - 1) = (q : Int) := by rw [g1]; exact IntWalk.i64_in _ (by omega)
  have f1 : (((0 : Nat) : Int) == 0) = true := rfl
  have hl : t.data.toList = (91 : UInt8) :: t[1] :: t.data.toList.drop 2 := by
    have e0 : t.data.toList[0]? = some 91 := by rw [Array.getElem?_toList, Array.getElem?_eq_getElem (show 0 < t.data.size from h0)]; exact congrArg some (hC.first h0)
    have e1 : t.data.toList[1]? = some t[1] := by rw [Array.getElem?_toList, Array.getElem?_eq_getElem (show 1 < t.data.size from h1)]; rfl
    rcases hx : t.data.toList with _ | ⟨a, _ | ⟨b, l⟩⟩
    · rw [hx] at e0; cases e0
    · rw [hx] at e1; cases e1
    · rw [hx] at e0 e1
      simp only [List.getElem?_cons_zero, List.getElem?_cons_succ, Option.some.injEq] at e0 e1
      rw [e0, e1]
      rfl
  have tl : t.size = t.data.toList.length := by rw [Array.length_toList]; rfl
  have hO : other = false := by
    cases other
    · rfl
    · exact absurd ((hC.second h1).2 rfl) hc
  obtain ⟨O, hOe⟩ : ∃ O : ByteArray, O = ⟨#[91, 94]⟩ ++ t.extract 1 t.size := ⟨_, rfl⟩
  have hOl : O.data.toList = (91 : UInt8) :: 94 :: t[1] :: t.data.toList.drop 2 := by
    rw [hOe, ByteArray.data_append, ByteArray.data_extract, Array.toList_append, Array.toList_extract, List.extract_eq_take_drop, hl, tl, hl]
    simp
    rw [List.take_of_length_le (by rw [List.length_drop, ← tl]; exact Nat.le_refl _)]
  have hOs : O.size = t.size + 1 := by rw [hOe, ByteArray.size_append, ByteArray.size_extract]; show 2 + _ = _; omega
  obtain ⟨k, hk, hkm⟩ := uncl_flip (u := O) (mb' := 0) (n' := t.size + 2) hV (by omega) rfl (.inr ⟨t[1], _, hc, hl, hOl⟩)
  have HO := Lib.hid (show ∀ w, Below W.heap.size W w → Calls Tryd.prog 14 #[.string (⟨#[91, 94]⟩ ++ t.extract 1 t.size)] w fun e' w' => e' = .returned (.tuple #[x.not.v, .int .i64 k, .int .i64 0]) ∧ Below w.heap.size w w' from fun w hb => by have := unclass_at HI.out hb O (by omega) (t.size + 2) (by omega); rw [hk, hOe] at this; exact this)
  obtain ⟨C, hCe⟩ : ∃ C : ByteArray, C = ⟨(clsL x).toArray⟩ := ⟨_, rfl⟩
  have HC := Lib.hid (show ∀ w, Below W.heap.size W w → Calls Tryd.prog 13 #[x.v] w fun e w' => e = .returned (.string C) ∧ Below w.heap.size w w' from fun w hb => by rw [hCe]; exact class_any HI.out hb x hxo)
  have hCs : C.size ≤ q + 1 := by
    have h1 := hC.short hO
    have h2 := hC.set
    rw [hO] at h2
    rw [hCe, h2]
    exact h1
  have c1 : decide ((q : Int) + 1 < (C.size : Int)) = false := by simp; omega
  have w1 : ((t[1].toNat : Int) != 94) = true := by rw [bne_iff_ne]; intro h; exact hc (u8_eq (by show t[1].toNat = 94; omega))
  have w2 : ((t[1].toNat : Int) == 94) = false := by rw [beq_eq_false_iff_ne]; intro h; exact hc (u8_eq (by show t[1].toNat = 94; omega))
  have hkl : k = q + 2 := by omega
  have HNT := Lib.hid (show ∀ w : World, Calls Tryd.prog 18 #[x.v] w fun e' w' => e' = .returned x.not.v ∧ Below w.heap.size w w' from fun w => not_any x hxo w)
  have s1 : (2 : Nat) + (t.size - 1) = t.size + 1 := by omega
  subst hkl
  clear hU hV hk hkm hOe hOl hOs hCe hl tl hC hO hc hxo hm2 hml
  go_enter Tryd.func7, Tryd.ntmps7
  go_wp2_with (first | (go_at_call 8; refine (awake_any HI.out HN.out).mono ?_; rintro e' w1 ⟨rfl, hb1⟩; have HN1 := Lib.hid (bstep HN.out hb1); clear hb1) | (go_at_call 10; with_reducible refine (HU.out _ HN1.out).mono ?_; rintro e' w2 ⟨rfl, hb1⟩; have HN2 := Lib.hid (bstep HN1.out hb1); clear hb1) | (go_at_call 9; with_reducible refine (HL.out _ HN2.out).mono ?_; rintro e' w3 ⟨rfl, hb1⟩; have HN3 := Lib.hid (bstep HN2.out hb1); clear hb1) | (go_at_call 14; with_reducible refine (HV.out _ HN3.out).mono ?_; rintro e' w4 ⟨rfl, hb1⟩; have hN4 := bstep HN3.out hb1; clear hb1; have hbx := Box4.new w4 x; have hNX := hN4.alloc hN4.size (.cells #[.int .u64 x.a, .int .u64 x.b, .int .u64 x.c, .int .u64 x.d] 31); obtain ⟨z0, z1, z2, z3⟩ := hbx.cells) | (go_at_call 13; with_reducible refine (HC.out _ hNX).mono ?_; rintro e' w5 ⟨rfl, hb1⟩; have hbx := hbx.below hb1 hbx.lt; have hNX := bstep hNX hb1; clear hb1 z0 z1 z2 z3; obtain ⟨z0, z1, z2, z3⟩ := hbx.cells) | (go_at_call 14; with_reducible refine (HO.out _ hNX).mono ?_; rintro e' w6 ⟨rfl, hb1⟩; have hbx := (hbx.below hb1 hbx.lt).more (.cells #[.int .u64 x.not.a, .int .u64 x.not.b, .int .u64 x.not.c, .int .u64 x.not.d] 31); have hNX := bstep hNX hb1; have hNX := hNX.alloc hNX.size (.cells #[.int .u64 x.not.a, .int .u64 x.not.b, .int .u64 x.not.c, .int .u64 x.not.d] 31); clear hb1 z0 z1 z2 z3; obtain ⟨z0, z1, z2, z3⟩ := hbx.cells; have hby := Box4.new w6 x.not; obtain ⟨y0, y1, y2, y3⟩ := hby.cells))
  refine wp_region_held_drew (S := (fun w' => w'.cell? ⟨w6.heap.size, 0, none⟩ = some (.int .u64 x.not.a) ∧ w'.cell? ⟨w6.heap.size, 1, none⟩ = some (.int .u64 x.not.b) ∧ w'.cell? ⟨w6.heap.size, 2, none⟩ = some (.int .u64 x.not.c) ∧ w'.cell? ⟨w6.heap.size, 3, none⟩ = some (.int .u64 x.not.d) ∧ w'.cell? ⟨w4.heap.size, 0, none⟩ = some (.int .u64 x.a) ∧ w'.cell? ⟨w4.heap.size, 1, none⟩ = some (.int .u64 x.b) ∧ w'.cell? ⟨w4.heap.size, 2, none⟩ = some (.int .u64 x.c) ∧ w'.cell? ⟨w4.heap.size, 3, none⟩ = some (.int .u64 x.d))) (by kernel_rfl) ⟨y0, y1, y2, y3, z0, z1, z2, z3⟩ (fun hHeld => ?_)
  refine wpAnyH_take (i := 0) (v := ?_) rfl (by kernel_rfl) (by kernel_rfl) (by kernel_rfl) (fun _ _ _ h => h) (Or.inl ⟨by kernel_rfl, ?_⟩) (by assumption) ?_
  rotate_left
  · (intro w hSw; (try dsimp only at hSw); go_simp; (try with_reducible rfl))
  try simp only [Act.put, List.getElem_toArray, List.getElem_cons_zero, List.getElem_cons_succ, List.setIfInBounds_toArray, List.set_cons_zero, List.set_cons_succ]
  refine wpAnyH_take (i := 1) (v := ?_) rfl (by kernel_rfl) (by kernel_rfl) (by kernel_rfl) (fun _ _ _ h => h) (Or.inl ⟨by kernel_rfl, ?_⟩) (by assumption) ?_
  rotate_left
  · (intro w hSw; (try dsimp only at hSw); go_simp; (try with_reducible rfl))
  try simp only [Act.put, List.getElem_toArray, List.getElem_cons_zero, List.getElem_cons_succ, List.setIfInBounds_toArray, List.set_cons_zero, List.set_cons_succ]
  refine wpAnyH_take (i := 2) (v := ?_) rfl (by kernel_rfl) (by kernel_rfl) (by kernel_rfl) (fun _ _ _ h => h) (Or.inl ⟨by kernel_rfl, ?_⟩) (by assumption) ?_
  rotate_left
  · (intro w hSw; (try dsimp only at hSw); go_simp; (try with_reducible rfl))
  try simp only [Act.put, List.getElem_toArray, List.getElem_cons_zero, List.getElem_cons_succ, List.setIfInBounds_toArray, List.set_cons_zero, List.set_cons_succ]
  refine wpAnyH_take (i := 3) (v := ?_) rfl (by kernel_rfl) (by kernel_rfl) (by kernel_rfl) (fun _ _ _ h => h) (Or.inl ⟨by kernel_rfl, ?_⟩) (by assumption) ?_
  rotate_left
  · (intro w hSw; (try dsimp only at hSw); go_simp; (try with_reducible rfl))
  try simp only [Act.put, List.getElem_toArray, List.getElem_cons_zero, List.getElem_cons_succ, List.setIfInBounds_toArray, List.set_cons_zero, List.set_cons_succ]
  refine wpAnyH_take (i := 4) (v := ?_) rfl (by kernel_rfl) (by kernel_rfl) (by kernel_rfl) (fun _ _ _ h => h) (Or.inl ⟨by kernel_rfl, ?_⟩) (by assumption) ?_
  rotate_left
  · (intro w hSw; (try dsimp only at hSw); go_simp; (try with_reducible rfl))
  try simp only [Act.put, List.getElem_toArray, List.getElem_cons_zero, List.getElem_cons_succ, List.setIfInBounds_toArray, List.set_cons_zero, List.set_cons_succ]
  refine wpAnyH_ready (rs := [5]) (by kernel_rfl) (by simp) (AllReadyH.cons rfl (fun K hK => ?_) AllReadyH.nil)
  go_simp
  go_at_call 18
  refine (HNT.out _).mono ?_
  rintro e' w7 ⟨rfl, hb7⟩
  replace hb7 : Below (w6.alloc (.cells #[.int .u64 x.not.a, .int .u64 x.not.b, .int .u64 x.not.c, .int .u64 x.not.d] 31)).heap.size (w6.alloc (.cells #[.int .u64 x.not.a, .int .u64 x.not.b, .int .u64 x.not.c, .int .u64 x.not.d] 31)) w7 := (Below.refl _ (w6.alloc (.cells #[.int .u64 x.not.a, .int .u64 x.not.b, .int .u64 x.not.c, .int .u64 x.not.d] 31))).drew.trans hb7
  obtain ⟨p0, p1, p2, p3⟩ := (hbx.below hb7 hbx.lt).cells
  obtain ⟨r0, r1, r2, r3⟩ := (hby.below hb7 hby.lt).cells
  have hN7 := bstep hNX hb7
  clear hHeld
  refine hK.out _ _ ⟨r0, r1, r2, r3, p0, p1, p2, p3⟩ (fun hHeld => ?_)
  clear hK K
  try simp only [Act.put, List.getElem_toArray, List.getElem_cons_zero, List.getElem_cons_succ, List.setIfInBounds_toArray, List.set_cons_zero, List.set_cons_succ]
  refine wpAnyH_take (i := 6) (v := ?_) rfl (by kernel_rfl) (by kernel_rfl) (by kernel_rfl) (fun _ _ _ h => h) (Or.inl ⟨by kernel_rfl, ?_⟩) (by assumption) ?_
  rotate_left
  · (intro w hSw; (try dsimp only at hSw); go_simp; (try with_reducible rfl))
  try simp only [Act.put, List.getElem_toArray, List.getElem_cons_zero, List.getElem_cons_succ, List.setIfInBounds_toArray, List.set_cons_zero, List.set_cons_succ]
  refine wpAnyH_take (i := 7) (v := ?_) rfl (by kernel_rfl) (by kernel_rfl) (by kernel_rfl) (fun _ _ _ h => h) (Or.inl ⟨by kernel_rfl, ?_⟩) (by assumption) ?_
  rotate_left
  · (intro w hSw; (try dsimp only at hSw); go_simp; (try with_reducible rfl))
  try simp only [Act.put, List.getElem_toArray, List.getElem_cons_zero, List.getElem_cons_succ, List.setIfInBounds_toArray, List.set_cons_zero, List.set_cons_succ]
  refine wpAnyH_take (i := 8) (v := ?_) rfl (by kernel_rfl) (by kernel_rfl) (by kernel_rfl) (fun _ _ _ h => h) (Or.inl ⟨by kernel_rfl, ?_⟩) (by assumption) ?_
  rotate_left
  · (intro w hSw; (try dsimp only at hSw); go_simp; (try with_reducible rfl))
  try simp only [Act.put, List.getElem_toArray, List.getElem_cons_zero, List.getElem_cons_succ, List.setIfInBounds_toArray, List.set_cons_zero, List.set_cons_succ]
  refine wpAnyH_take (i := 9) (v := ?_) rfl (by kernel_rfl) (by kernel_rfl) (by kernel_rfl) (fun _ _ _ h => h) (Or.inl ⟨by kernel_rfl, ?_⟩) (by assumption) ?_
  rotate_left
  · (intro w hSw; (try dsimp only at hSw); go_simp; (try with_reducible rfl))
  try simp only [Act.put, List.getElem_toArray, List.getElem_cons_zero, List.getElem_cons_succ, List.setIfInBounds_toArray, List.set_cons_zero, List.set_cons_succ]
  refine wpAnyH_take (i := 10) (v := ?_) rfl (by kernel_rfl) (by kernel_rfl) (by kernel_rfl) (fun _ _ _ h => h) (Or.inl ⟨by kernel_rfl, ?_⟩) (by assumption) ?_
  rotate_left
  · (intro w hSw; (try dsimp only at hSw); go_simp; (try with_reducible rfl))
  try simp only [Act.put, List.getElem_toArray, List.getElem_cons_zero, List.getElem_cons_succ, List.setIfInBounds_toArray, List.set_cons_zero, List.set_cons_succ]
  refine wpAnyH_take (i := 11) (v := ?_) rfl (by kernel_rfl) (by kernel_rfl) (by kernel_rfl) (fun _ _ _ h => h) (Or.inl ⟨by kernel_rfl, ?_⟩) (by assumption) ?_
  rotate_left
  · (intro w hSw; (try dsimp only at hSw); go_simp; (try with_reducible rfl))
  try simp only [Act.put, List.getElem_toArray, List.getElem_cons_zero, List.getElem_cons_succ, List.setIfInBounds_toArray, List.set_cons_zero, List.set_cons_succ]
  refine wpAnyH_take (i := 12) (v := ?_) rfl (by kernel_rfl) (by kernel_rfl) (by kernel_rfl) (fun _ _ _ h => h) (Or.inl ⟨by kernel_rfl, ?_⟩) (by assumption) ?_
  rotate_left
  · (intro w hSw; (try dsimp only at hSw); go_simp; (try with_reducible rfl))
  try simp only [Act.put, List.getElem_toArray, List.getElem_cons_zero, List.getElem_cons_succ, List.setIfInBounds_toArray, List.set_cons_zero, List.set_cons_succ]
  refine wpAnyH_take (i := 13) (v := ?_) rfl (by kernel_rfl) (by kernel_rfl) (by kernel_rfl) (fun _ _ _ h => h) (Or.inl ⟨by kernel_rfl, ?_⟩) (by assumption) ?_
  rotate_left
  · (intro w hSw; (try dsimp only at hSw); go_simp; (try with_reducible rfl))
  try simp only [Act.put, List.getElem_toArray, List.getElem_cons_zero, List.getElem_cons_succ, List.setIfInBounds_toArray, List.set_cons_zero, List.set_cons_succ]
  refine wpAnyH_take (i := 14) (v := ?_) rfl (by kernel_rfl) (by kernel_rfl) (by kernel_rfl) (fun _ _ _ h => h) (Or.inl ⟨by kernel_rfl, ?_⟩) (by assumption) ?_
  rotate_left
  · (intro w hSw; (try dsimp only at hSw); go_simp; (try with_reducible rfl))
  try simp only [Act.put, List.getElem_toArray, List.getElem_cons_zero, List.getElem_cons_succ, List.setIfInBounds_toArray, List.set_cons_zero, List.set_cons_succ]
  refine wpAnyH_take (i := 15) (v := ?_) rfl (by kernel_rfl) (by kernel_rfl) (by kernel_rfl) (fun _ _ _ h => h) (Or.inl ⟨by kernel_rfl, ?_⟩) (by assumption) ?_
  rotate_left
  · (intro w hSw; (try dsimp only at hSw); go_simp; (try with_reducible rfl))
  try simp only [Act.put, List.getElem_toArray, List.getElem_cons_zero, List.getElem_cons_succ, List.setIfInBounds_toArray, List.set_cons_zero, List.set_cons_succ]
  refine wpAnyH_take (i := 16) (v := ?_) rfl (by kernel_rfl) (by kernel_rfl) (by kernel_rfl) (fun _ _ _ h => h) (Or.inl ⟨by kernel_rfl, ?_⟩) (by assumption) ?_
  rotate_left
  · (intro w hSw; (try dsimp only at hSw); go_simp; (try with_reducible rfl))
  try simp only [Act.put, List.getElem_toArray, List.getElem_cons_zero, List.getElem_cons_succ, List.setIfInBounds_toArray, List.set_cons_zero, List.set_cons_succ]
  refine wpAnyH_take (i := 17) (v := ?_) rfl (by kernel_rfl) (by kernel_rfl) (by kernel_rfl) (fun _ _ _ h => h) (Or.inl ⟨by kernel_rfl, ?_⟩) (by assumption) ?_
  rotate_left
  · (intro w hSw; (try dsimp only at hSw); go_simp; (try with_reducible rfl))
  try simp only [Act.put, List.getElem_toArray, List.getElem_cons_zero, List.getElem_cons_succ, List.setIfInBounds_toArray, List.set_cons_zero, List.set_cons_succ]
  refine wpAnyH_take (i := 18) (v := ?_) rfl (by kernel_rfl) (by kernel_rfl) (by kernel_rfl) (fun _ _ _ h => h) (Or.inl ⟨by kernel_rfl, ?_⟩) (by assumption) ?_
  rotate_left
  · (intro w hSw; (try dsimp only at hSw); go_simp; (try with_reducible rfl))
  try simp only [Act.put, List.getElem_toArray, List.getElem_cons_zero, List.getElem_cons_succ, List.setIfInBounds_toArray, List.set_cons_zero, List.set_cons_succ]
  refine wpAnyH_take (i := 19) (v := ?_) rfl (by kernel_rfl) (by kernel_rfl) (by kernel_rfl) (fun _ _ _ h => h) (Or.inl ⟨by kernel_rfl, ?_⟩) (by assumption) ?_
  rotate_left
  · (intro w hSw; (try dsimp only at hSw); go_simp; (try with_reducible rfl))
  try simp only [Act.put, List.getElem_toArray, List.getElem_cons_zero, List.getElem_cons_succ, List.setIfInBounds_toArray, List.set_cons_zero, List.set_cons_succ]
  refine wpAnyH_done (by kernel_rfl) ?_ _
  have hfin : (IntKind.i64.wrap ((q : Int) + 2 - ((q : Int) + 1)) == IntKind.i64.wrap ((t.size : Int) + 1 - (t.size : Int))) = true := by
    rw [show (q : Int) + 2 - ((q : Int) + 1) = (t.size : Int) + 1 - (t.size : Int) by omega]
    exact beq_self_eq_true _
  rw [hfin]
  go_wp2
  go_ret
  exact ⟨rfl, hN7⟩

end Go.Proofs.YtjaklcmadkpmdaaDoor
end
section
namespace Go.Proofs.YtjaklcmadkpmdaaDoor
open Go Go.RowKit Go.Shelf
set_option linter.unusedSimpArgs false
set_option linter.unusedVariables false

set_option maxRecDepth 100000 in
set_option maxHeartbeats 4000000 in
theorem short_g (t : ByteArray) (ht : t.size ≤ 3000) (W : World) (hI : Inv W) (s : ByteArray) (n e : Nat) (hU : unl t 0 (t.size + 1) = (s, n, e)) (x : S4) (m f : Nat) (hV : uncl t 0 (t.size + 2) = (x, m, f)) (he : e ≠ 0) (hf : f = 0) (h1t : 1 < t.size) (hc : t[1] = 94) :
    Calls Tryd.prog 7 #[.string t] W fun e w' => e = .returned (.bool true) ∧ Below W.heap.size W w' := by
  have HI := Lib.hid hI
  have HN := Lib.hid (Below.refl W.heap.size W)
  clear hI
  have hd : decide ((3000 : Int) < (t.size : Int)) = false := by simp; omega
  have HU := Lib.hid (show ∀ w, Below W.heap.size W w → Calls Tryd.prog 10 #[.string t] w fun e' w' => e' = .returned (.tuple #[.string s, .int .i64 n, .int .i64 e]) ∧ Below w.heap.size w w' from fun w hb => by have := unliteral_atz HI.out hb t (by omega); rw [hU] at this; exact this)
  have HV := Lib.hid (show ∀ w, Below W.heap.size W w → Calls Tryd.prog 14 #[.string t] w fun e' w' => e' = .returned (.tuple #[x.v, .int .i64 m, .int .i64 f]) ∧ Below w.heap.size w w' from fun w hb => by have := unclass_at HI.out hb t (by omega) (t.size + 2) (by omega); rw [hV] at this; exact this)
  have e1 : ((e : Int) == 0) = false := by rw [beq_eq_false_iff_ne]; omega
  have e2 : ((e : Int) != 0) = true := by rw [bne_iff_ne]; omega
  subst hf
  obtain ⟨S, other, hC⟩ := uncl_is hV
  have hm2 := hC.two
  have hml := hC.le
  have h0 : 0 < t.size := by omega
  have h1 : 1 < t.size := by omega
  have hxo : x.ok := by rw [hC.set]; split; exact S4.ok_not hC.ok; exact hC.ok
  obtain ⟨q, rfl⟩ : ∃ q, m = q + 1 := ⟨m - 1, by omega⟩
  have hq : q < t.size := by omega
  have v0 : ((t[0].toNat : Int) != 91) = false := by rw [hC.first h0]; rfl
  have v9 : ((t[q].toNat : Int) != 93) = false := by have := hC.last hq; rw [show t[q] = 93 from this]; rfl
  have g0 : decide ((q : Int) + 1 < 2) = false := by simp; omega
  have g1 : (((q + 1 : Nat) : Int) - 1) = (q : Int) := by omega
  have g2 : IntKind.i64.wrap (((q + 1 : Nat) : Int) - 1) = (q : Int) := by rw [g1]; exact IntWalk.i64_in _ (by omega)
  have f1 : (((0 : Nat) : Int) == 0) = true := rfl
  have hl : t.data.toList = (91 : UInt8) :: t[1] :: t.data.toList.drop 2 := by
    have e0 : t.data.toList[0]? = some 91 := by rw [Array.getElem?_toList, Array.getElem?_eq_getElem (show 0 < t.data.size from h0)]; exact congrArg some (hC.first h0)
    have e1 : t.data.toList[1]? = some t[1] := by rw [Array.getElem?_toList, Array.getElem?_eq_getElem (show 1 < t.data.size from h1)]; rfl
    rcases hx : t.data.toList with _ | ⟨a, _ | ⟨b, l⟩⟩
    · rw [hx] at e0; cases e0
    · rw [hx] at e1; cases e1
    · rw [hx] at e0 e1
      simp only [List.getElem?_cons_zero, List.getElem?_cons_succ, Option.some.injEq] at e0 e1
      rw [e0, e1]
      rfl
  have tl : t.size = t.data.toList.length := by rw [Array.length_toList]; rfl
  have hO : other = true := (hC.second h1).1 hc
  obtain ⟨O, hOe⟩ : ∃ O : ByteArray, O = ⟨#[91]⟩ ++ t.extract 2 t.size := ⟨_, rfl⟩
  have hOl : O.data.toList = (91 : UInt8) :: t.data.toList.drop 2 := by
    rw [hOe, ByteArray.data_append, ByteArray.data_extract, Array.toList_append, Array.toList_extract, List.extract_eq_take_drop, List.take_of_length_le (by rw [List.length_drop, ← tl]; exact Nat.le_refl _)]
    rfl
  have hOs : O.size = t.size - 1 := by rw [hOe, ByteArray.size_append, ByteArray.size_extract]; show 1 + _ = _; omega
  obtain ⟨k, hk, hkm⟩ := uncl_flip (u := O) (mb' := 0) (n' := t.size + 2) hV (by omega) rfl (.inl ⟨_, by rw [hc] at hl; exact hl, hOl⟩)
  have HO := Lib.hid (show ∀ w, Below W.heap.size W w → Calls Tryd.prog 14 #[.string (⟨#[91]⟩ ++ t.extract 2 t.size)] w fun e' w' => e' = .returned (.tuple #[x.not.v, .int .i64 k, .int .i64 0]) ∧ Below w.heap.size w w' from fun w hb => by have := unclass_at HI.out hb O (by omega) (t.size + 2) (by omega); rw [hk, hOe] at this; exact this)
  have w1 : ((t[1].toNat : Int) != 94) = false := by rw [hc]; rfl
  have w2 : ((t[1].toNat : Int) == 94) = true := by rw [hc]; rfl
  have hkl : k = q := by omega
  have HNT := Lib.hid (show ∀ w : World, Calls Tryd.prog 18 #[x.v] w fun e' w' => e' = .returned x.not.v ∧ Below w.heap.size w w' from fun w => not_any x hxo w)
  subst hkl
  clear hU hV hk hkm hOe hOl hOs hl tl hC hO hc hxo hm2 hml
  go_enter Tryd.func7, Tryd.ntmps7
  go_wp2_with (first | (go_at_call 8; refine (awake_any HI.out HN.out).mono ?_; rintro e' w1 ⟨rfl, hb1⟩; have HN1 := Lib.hid (bstep HN.out hb1); clear hb1) | (go_at_call 10; with_reducible refine (HU.out _ HN1.out).mono ?_; rintro e' w2 ⟨rfl, hb1⟩; have HN2 := Lib.hid (bstep HN1.out hb1); clear hb1) | (go_at_call 14; with_reducible refine (HV.out _ HN2.out).mono ?_; rintro e' w4 ⟨rfl, hb1⟩; have hN4 := bstep HN2.out hb1; clear hb1; have hbx := Box4.new w4 x; have hNX := hN4.alloc hN4.size (.cells #[.int .u64 x.a, .int .u64 x.b, .int .u64 x.c, .int .u64 x.d] 31); obtain ⟨z0, z1, z2, z3⟩ := hbx.cells) | (go_at_call 14; with_reducible refine (HO.out _ hNX).mono ?_; rintro e' w6 ⟨rfl, hb1⟩; have hbx := (hbx.below hb1 hbx.lt).more (.cells #[.int .u64 x.not.a, .int .u64 x.not.b, .int .u64 x.not.c, .int .u64 x.not.d] 31); have hNX := bstep hNX hb1; have hNX := hNX.alloc hNX.size (.cells #[.int .u64 x.not.a, .int .u64 x.not.b, .int .u64 x.not.c, .int .u64 x.not.d] 31); clear hb1 z0 z1 z2 z3; obtain ⟨z0, z1, z2, z3⟩ := hbx.cells; have hby := Box4.new w6 x.not; obtain ⟨y0, y1, y2, y3⟩ := hby.cells))
  refine wp_region_held_drew (S := (fun w' => w'.cell? ⟨w6.heap.size, 0, none⟩ = some (.int .u64 x.not.a) ∧ w'.cell? ⟨w6.heap.size, 1, none⟩ = some (.int .u64 x.not.b) ∧ w'.cell? ⟨w6.heap.size, 2, none⟩ = some (.int .u64 x.not.c) ∧ w'.cell? ⟨w6.heap.size, 3, none⟩ = some (.int .u64 x.not.d) ∧ w'.cell? ⟨w4.heap.size, 0, none⟩ = some (.int .u64 x.a) ∧ w'.cell? ⟨w4.heap.size, 1, none⟩ = some (.int .u64 x.b) ∧ w'.cell? ⟨w4.heap.size, 2, none⟩ = some (.int .u64 x.c) ∧ w'.cell? ⟨w4.heap.size, 3, none⟩ = some (.int .u64 x.d))) (by kernel_rfl) ⟨y0, y1, y2, y3, z0, z1, z2, z3⟩ (fun hHeld => ?_)
  refine wpAnyH_take (i := 0) (v := ?_) rfl (by kernel_rfl) (by kernel_rfl) (by kernel_rfl) (fun _ _ _ h => h) (Or.inl ⟨by kernel_rfl, ?_⟩) (by assumption) ?_
  rotate_left
  · (intro w hSw; (try dsimp only at hSw); go_simp; (try with_reducible rfl))
  try simp only [Act.put, List.getElem_toArray, List.getElem_cons_zero, List.getElem_cons_succ, List.setIfInBounds_toArray, List.set_cons_zero, List.set_cons_succ]
  refine wpAnyH_take (i := 1) (v := ?_) rfl (by kernel_rfl) (by kernel_rfl) (by kernel_rfl) (fun _ _ _ h => h) (Or.inl ⟨by kernel_rfl, ?_⟩) (by assumption) ?_
  rotate_left
  · (intro w hSw; (try dsimp only at hSw); go_simp; (try with_reducible rfl))
  try simp only [Act.put, List.getElem_toArray, List.getElem_cons_zero, List.getElem_cons_succ, List.setIfInBounds_toArray, List.set_cons_zero, List.set_cons_succ]
  refine wpAnyH_take (i := 2) (v := ?_) rfl (by kernel_rfl) (by kernel_rfl) (by kernel_rfl) (fun _ _ _ h => h) (Or.inl ⟨by kernel_rfl, ?_⟩) (by assumption) ?_
  rotate_left
  · (intro w hSw; (try dsimp only at hSw); go_simp; (try with_reducible rfl))
  try simp only [Act.put, List.getElem_toArray, List.getElem_cons_zero, List.getElem_cons_succ, List.setIfInBounds_toArray, List.set_cons_zero, List.set_cons_succ]
  refine wpAnyH_take (i := 3) (v := ?_) rfl (by kernel_rfl) (by kernel_rfl) (by kernel_rfl) (fun _ _ _ h => h) (Or.inl ⟨by kernel_rfl, ?_⟩) (by assumption) ?_
  rotate_left
  · (intro w hSw; (try dsimp only at hSw); go_simp; (try with_reducible rfl))
  try simp only [Act.put, List.getElem_toArray, List.getElem_cons_zero, List.getElem_cons_succ, List.setIfInBounds_toArray, List.set_cons_zero, List.set_cons_succ]
  refine wpAnyH_take (i := 4) (v := ?_) rfl (by kernel_rfl) (by kernel_rfl) (by kernel_rfl) (fun _ _ _ h => h) (Or.inl ⟨by kernel_rfl, ?_⟩) (by assumption) ?_
  rotate_left
  · (intro w hSw; (try dsimp only at hSw); go_simp; (try with_reducible rfl))
  try simp only [Act.put, List.getElem_toArray, List.getElem_cons_zero, List.getElem_cons_succ, List.setIfInBounds_toArray, List.set_cons_zero, List.set_cons_succ]
  refine wpAnyH_ready (rs := [5]) (by kernel_rfl) (by simp) (AllReadyH.cons rfl (fun K hK => ?_) AllReadyH.nil)
  go_simp
  go_at_call 18
  refine (HNT.out _).mono ?_
  rintro e' w7 ⟨rfl, hb7⟩
  replace hb7 : Below (w6.alloc (.cells #[.int .u64 x.not.a, .int .u64 x.not.b, .int .u64 x.not.c, .int .u64 x.not.d] 31)).heap.size (w6.alloc (.cells #[.int .u64 x.not.a, .int .u64 x.not.b, .int .u64 x.not.c, .int .u64 x.not.d] 31)) w7 := (Below.refl _ (w6.alloc (.cells #[.int .u64 x.not.a, .int .u64 x.not.b, .int .u64 x.not.c, .int .u64 x.not.d] 31))).drew.trans hb7
  obtain ⟨p0, p1, p2, p3⟩ := (hbx.below hb7 hbx.lt).cells
  obtain ⟨r0, r1, r2, r3⟩ := (hby.below hb7 hby.lt).cells
  have hN7 := bstep hNX hb7
  clear hHeld
  refine hK.out _ _ ⟨r0, r1, r2, r3, p0, p1, p2, p3⟩ (fun hHeld => ?_)
  clear hK K
  try simp only [Act.put, List.getElem_toArray, List.getElem_cons_zero, List.getElem_cons_succ, List.setIfInBounds_toArray, List.set_cons_zero, List.set_cons_succ]
  refine wpAnyH_take (i := 6) (v := ?_) rfl (by kernel_rfl) (by kernel_rfl) (by kernel_rfl) (fun _ _ _ h => h) (Or.inl ⟨by kernel_rfl, ?_⟩) (by assumption) ?_
  rotate_left
  · (intro w hSw; (try dsimp only at hSw); go_simp; (try with_reducible rfl))
  try simp only [Act.put, List.getElem_toArray, List.getElem_cons_zero, List.getElem_cons_succ, List.setIfInBounds_toArray, List.set_cons_zero, List.set_cons_succ]
  refine wpAnyH_take (i := 7) (v := ?_) rfl (by kernel_rfl) (by kernel_rfl) (by kernel_rfl) (fun _ _ _ h => h) (Or.inl ⟨by kernel_rfl, ?_⟩) (by assumption) ?_
  rotate_left
  · (intro w hSw; (try dsimp only at hSw); go_simp; (try with_reducible rfl))
  try simp only [Act.put, List.getElem_toArray, List.getElem_cons_zero, List.getElem_cons_succ, List.setIfInBounds_toArray, List.set_cons_zero, List.set_cons_succ]
  refine wpAnyH_take (i := 8) (v := ?_) rfl (by kernel_rfl) (by kernel_rfl) (by kernel_rfl) (fun _ _ _ h => h) (Or.inl ⟨by kernel_rfl, ?_⟩) (by assumption) ?_
  rotate_left
  · (intro w hSw; (try dsimp only at hSw); go_simp; (try with_reducible rfl))
  try simp only [Act.put, List.getElem_toArray, List.getElem_cons_zero, List.getElem_cons_succ, List.setIfInBounds_toArray, List.set_cons_zero, List.set_cons_succ]
  refine wpAnyH_take (i := 9) (v := ?_) rfl (by kernel_rfl) (by kernel_rfl) (by kernel_rfl) (fun _ _ _ h => h) (Or.inl ⟨by kernel_rfl, ?_⟩) (by assumption) ?_
  rotate_left
  · (intro w hSw; (try dsimp only at hSw); go_simp; (try with_reducible rfl))
  try simp only [Act.put, List.getElem_toArray, List.getElem_cons_zero, List.getElem_cons_succ, List.setIfInBounds_toArray, List.set_cons_zero, List.set_cons_succ]
  refine wpAnyH_take (i := 10) (v := ?_) rfl (by kernel_rfl) (by kernel_rfl) (by kernel_rfl) (fun _ _ _ h => h) (Or.inl ⟨by kernel_rfl, ?_⟩) (by assumption) ?_
  rotate_left
  · (intro w hSw; (try dsimp only at hSw); go_simp; (try with_reducible rfl))
  try simp only [Act.put, List.getElem_toArray, List.getElem_cons_zero, List.getElem_cons_succ, List.setIfInBounds_toArray, List.set_cons_zero, List.set_cons_succ]
  refine wpAnyH_take (i := 11) (v := ?_) rfl (by kernel_rfl) (by kernel_rfl) (by kernel_rfl) (fun _ _ _ h => h) (Or.inl ⟨by kernel_rfl, ?_⟩) (by assumption) ?_
  rotate_left
  · (intro w hSw; (try dsimp only at hSw); go_simp; (try with_reducible rfl))
  try simp only [Act.put, List.getElem_toArray, List.getElem_cons_zero, List.getElem_cons_succ, List.setIfInBounds_toArray, List.set_cons_zero, List.set_cons_succ]
  refine wpAnyH_take (i := 12) (v := ?_) rfl (by kernel_rfl) (by kernel_rfl) (by kernel_rfl) (fun _ _ _ h => h) (Or.inl ⟨by kernel_rfl, ?_⟩) (by assumption) ?_
  rotate_left
  · (intro w hSw; (try dsimp only at hSw); go_simp; (try with_reducible rfl))
  try simp only [Act.put, List.getElem_toArray, List.getElem_cons_zero, List.getElem_cons_succ, List.setIfInBounds_toArray, List.set_cons_zero, List.set_cons_succ]
  refine wpAnyH_take (i := 13) (v := ?_) rfl (by kernel_rfl) (by kernel_rfl) (by kernel_rfl) (fun _ _ _ h => h) (Or.inl ⟨by kernel_rfl, ?_⟩) (by assumption) ?_
  rotate_left
  · (intro w hSw; (try dsimp only at hSw); go_simp; (try with_reducible rfl))
  try simp only [Act.put, List.getElem_toArray, List.getElem_cons_zero, List.getElem_cons_succ, List.setIfInBounds_toArray, List.set_cons_zero, List.set_cons_succ]
  refine wpAnyH_take (i := 14) (v := ?_) rfl (by kernel_rfl) (by kernel_rfl) (by kernel_rfl) (fun _ _ _ h => h) (Or.inl ⟨by kernel_rfl, ?_⟩) (by assumption) ?_
  rotate_left
  · (intro w hSw; (try dsimp only at hSw); go_simp; (try with_reducible rfl))
  try simp only [Act.put, List.getElem_toArray, List.getElem_cons_zero, List.getElem_cons_succ, List.setIfInBounds_toArray, List.set_cons_zero, List.set_cons_succ]
  refine wpAnyH_take (i := 15) (v := ?_) rfl (by kernel_rfl) (by kernel_rfl) (by kernel_rfl) (fun _ _ _ h => h) (Or.inl ⟨by kernel_rfl, ?_⟩) (by assumption) ?_
  rotate_left
  · (intro w hSw; (try dsimp only at hSw); go_simp; (try with_reducible rfl))
  try simp only [Act.put, List.getElem_toArray, List.getElem_cons_zero, List.getElem_cons_succ, List.setIfInBounds_toArray, List.set_cons_zero, List.set_cons_succ]
  refine wpAnyH_take (i := 16) (v := ?_) rfl (by kernel_rfl) (by kernel_rfl) (by kernel_rfl) (fun _ _ _ h => h) (Or.inl ⟨by kernel_rfl, ?_⟩) (by assumption) ?_
  rotate_left
  · (intro w hSw; (try dsimp only at hSw); go_simp; (try with_reducible rfl))
  try simp only [Act.put, List.getElem_toArray, List.getElem_cons_zero, List.getElem_cons_succ, List.setIfInBounds_toArray, List.set_cons_zero, List.set_cons_succ]
  refine wpAnyH_take (i := 17) (v := ?_) rfl (by kernel_rfl) (by kernel_rfl) (by kernel_rfl) (fun _ _ _ h => h) (Or.inl ⟨by kernel_rfl, ?_⟩) (by assumption) ?_
  rotate_left
  · (intro w hSw; (try dsimp only at hSw); go_simp; (try with_reducible rfl))
  try simp only [Act.put, List.getElem_toArray, List.getElem_cons_zero, List.getElem_cons_succ, List.setIfInBounds_toArray, List.set_cons_zero, List.set_cons_succ]
  refine wpAnyH_take (i := 18) (v := ?_) rfl (by kernel_rfl) (by kernel_rfl) (by kernel_rfl) (fun _ _ _ h => h) (Or.inl ⟨by kernel_rfl, ?_⟩) (by assumption) ?_
  rotate_left
  · (intro w hSw; (try dsimp only at hSw); go_simp; (try with_reducible rfl))
  try simp only [Act.put, List.getElem_toArray, List.getElem_cons_zero, List.getElem_cons_succ, List.setIfInBounds_toArray, List.set_cons_zero, List.set_cons_succ]
  refine wpAnyH_take (i := 19) (v := ?_) rfl (by kernel_rfl) (by kernel_rfl) (by kernel_rfl) (fun _ _ _ h => h) (Or.inl ⟨by kernel_rfl, ?_⟩) (by assumption) ?_
  rotate_left
  · (intro w hSw; (try dsimp only at hSw); go_simp; (try with_reducible rfl))
  try simp only [Act.put, List.getElem_toArray, List.getElem_cons_zero, List.getElem_cons_succ, List.setIfInBounds_toArray, List.set_cons_zero, List.set_cons_succ]
  refine wpAnyH_done (by kernel_rfl) ?_ _
  have hfin : (IntKind.i64.wrap ((k : Int) - ((k : Int) + 1)) == IntKind.i64.wrap (1 + ((t.size - 2 : Nat) : Int) - (t.size : Int))) = true := by
    rw [show (k : Int) - ((k : Int) + 1) = 1 + ((t.size - 2 : Nat) : Int) - (t.size : Int) by omega]
    exact beq_self_eq_true _
  rw [hfin]
  go_wp2
  go_ret
  exact ⟨rfl, hN7⟩

set_option maxRecDepth 100000 in
set_option maxHeartbeats 4000000 in
theorem short_h (t : ByteArray) (ht : t.size ≤ 3000) (W : World) (hI : Inv W) (s : ByteArray) (n e : Nat) (hU : unl t 0 (t.size + 1) = (s, n, e)) (x : S4) (m f : Nat) (hV : uncl t 0 (t.size + 2) = (x, m, f)) (he : e = 0) (hf : f = 0) (h1t : 1 < t.size) (hc : t[1] = 94) :
    Calls Tryd.prog 7 #[.string t] W fun e w' => e = .returned (.bool true) ∧ Below W.heap.size W w' := by
  have HI := Lib.hid hI
  have HN := Lib.hid (Below.refl W.heap.size W)
  clear hI
  have hd : decide ((3000 : Int) < (t.size : Int)) = false := by simp; omega
  have HU := Lib.hid (show ∀ w, Below W.heap.size W w → Calls Tryd.prog 10 #[.string t] w fun e' w' => e' = .returned (.tuple #[.string s, .int .i64 n, .int .i64 e]) ∧ Below w.heap.size w w' from fun w hb => by have := unliteral_atz HI.out hb t (by omega); rw [hU] at this; exact this)
  have HV := Lib.hid (show ∀ w, Below W.heap.size W w → Calls Tryd.prog 14 #[.string t] w fun e' w' => e' = .returned (.tuple #[x.v, .int .i64 m, .int .i64 f]) ∧ Below w.heap.size w w' from fun w hb => by have := unclass_at HI.out hb t (by omega) (t.size + 2) (by omega); rw [hV] at this; exact this)
  have HF := Lib.hid (show (litL s).length ≤ n ∧ s.size ≤ 255 from unl_long (by rw [hU, he]) (Nat.lt_succ_self _))
  obtain ⟨A, hA⟩ : ∃ A : ByteArray, A = ⟨(litL s).toArray⟩ := ⟨_, rfl⟩
  have HL := Lib.hid (show ∀ w, Below W.heap.size W w → Calls Tryd.prog 9 #[.string s] w fun e w' => e = .returned (.string A) ∧ Below w.heap.size w w' from fun w hb => by rw [hA]; exact literal_any HI.out hb s (by have := HF.out.2; omega))
  have hAs : A.size ≤ n := by rw [hA]; exact HF.out.1
  have hss := HF.out.2
  have e1 : ((e : Int) == 0) = true := by rw [beq_iff_eq]; omega
  have e2 : ((e : Int) != 0) = false := by rw [bne_eq_false_iff_eq]; omega
  have e3 : decide ((n : Int) < (A.size : Int)) = false := by simp; omega
  have e4 : decide ((255 : Int) < (s.size : Int)) = false := by simp; omega
  clear hA
  subst hf
  obtain ⟨S, other, hC⟩ := uncl_is hV
  have hm2 := hC.two
  have hml := hC.le
  have h0 : 0 < t.size := by omega
  have h1 : 1 < t.size := by omega
  have hxo : x.ok := by rw [hC.set]; split; exact S4.ok_not hC.ok; exact hC.ok
  obtain ⟨q, rfl⟩ : ∃ q, m = q + 1 := ⟨m - 1, by omega⟩
  have hq : q < t.size := by omega
  have v0 : ((t[0].toNat : Int) != 91) = false := by rw [hC.first h0]; rfl
  have v9 : ((t[q].toNat : Int) != 93) = false := by have := hC.last hq; rw [show t[q] = 93 from this]; rfl
  have g0 : decide ((q : Int) + 1 < 2) = false := by simp; omega
  have g1 : (((q + 1 : Nat) : Int) - 1) = (q : Int) := by omega
  have g2 : IntKind.i64.wrap (((q + 1 : Nat) : Int) - 1) = (q : Int) := by rw [g1]; exact IntWalk.i64_in _ (by omega)
  have f1 : (((0 : Nat) : Int) == 0) = true := rfl
  have hl : t.data.toList = (91 : UInt8) :: t[1] :: t.data.toList.drop 2 := by
    have e0 : t.data.toList[0]? = some 91 := by rw [Array.getElem?_toList, Array.getElem?_eq_getElem (show 0 < t.data.size from h0)]; exact congrArg some (hC.first h0)
    have e1 : t.data.toList[1]? = some t[1] := by rw [Array.getElem?_toList, Array.getElem?_eq_getElem (show 1 < t.data.size from h1)]; rfl
    rcases hx : t.data.toList with _ | ⟨a, _ | ⟨b, l⟩⟩
    · rw [hx] at e0; cases e0
    · rw [hx] at e1; cases e1
    · rw [hx] at e0 e1
      simp only [List.getElem?_cons_zero, List.getElem?_cons_succ, Option.some.injEq] at e0 e1
      rw [e0, e1]
      rfl
  have tl : t.size = t.data.toList.length := by rw [Array.length_toList]; rfl
  have hO : other = true := (hC.second h1).1 hc
  obtain ⟨O, hOe⟩ : ∃ O : ByteArray, O = ⟨#[91]⟩ ++ t.extract 2 t.size := ⟨_, rfl⟩
  have hOl : O.data.toList = (91 : UInt8) :: t.data.toList.drop 2 := by
    rw [hOe, ByteArray.data_append, ByteArray.data_extract, Array.toList_append, Array.toList_extract, List.extract_eq_take_drop, List.take_of_length_le (by rw [List.length_drop, ← tl]; exact Nat.le_refl _)]
    rfl
  have hOs : O.size = t.size - 1 := by rw [hOe, ByteArray.size_append, ByteArray.size_extract]; show 1 + _ = _; omega
  obtain ⟨k, hk, hkm⟩ := uncl_flip (u := O) (mb' := 0) (n' := t.size + 2) hV (by omega) rfl (.inl ⟨_, by rw [hc] at hl; exact hl, hOl⟩)
  have HO := Lib.hid (show ∀ w, Below W.heap.size W w → Calls Tryd.prog 14 #[.string (⟨#[91]⟩ ++ t.extract 2 t.size)] w fun e' w' => e' = .returned (.tuple #[x.not.v, .int .i64 k, .int .i64 0]) ∧ Below w.heap.size w w' from fun w hb => by have := unclass_at HI.out hb O (by omega) (t.size + 2) (by omega); rw [hk, hOe] at this; exact this)
  have w1 : ((t[1].toNat : Int) != 94) = false := by rw [hc]; rfl
  have w2 : ((t[1].toNat : Int) == 94) = true := by rw [hc]; rfl
  have hkl : k = q := by omega
  have HNT := Lib.hid (show ∀ w : World, Calls Tryd.prog 18 #[x.v] w fun e' w' => e' = .returned x.not.v ∧ Below w.heap.size w w' from fun w => not_any x hxo w)
  subst hkl
  clear hU hV hk hkm hOe hOl hOs hl tl hC hO hc hxo hm2 hml
  go_enter Tryd.func7, Tryd.ntmps7
  go_wp2_with (first | (go_at_call 8; refine (awake_any HI.out HN.out).mono ?_; rintro e' w1 ⟨rfl, hb1⟩; have HN1 := Lib.hid (bstep HN.out hb1); clear hb1) | (go_at_call 10; with_reducible refine (HU.out _ HN1.out).mono ?_; rintro e' w2 ⟨rfl, hb1⟩; have HN2 := Lib.hid (bstep HN1.out hb1); clear hb1) | (go_at_call 9; with_reducible refine (HL.out _ HN2.out).mono ?_; rintro e' w3 ⟨rfl, hb1⟩; have HN3 := Lib.hid (bstep HN2.out hb1); clear hb1) | (go_at_call 14; with_reducible refine (HV.out _ HN3.out).mono ?_; rintro e' w4 ⟨rfl, hb1⟩; have hN4 := bstep HN3.out hb1; clear hb1; have hbx := Box4.new w4 x; have hNX := hN4.alloc hN4.size (.cells #[.int .u64 x.a, .int .u64 x.b, .int .u64 x.c, .int .u64 x.d] 31); obtain ⟨z0, z1, z2, z3⟩ := hbx.cells) | (go_at_call 14; with_reducible refine (HO.out _ hNX).mono ?_; rintro e' w6 ⟨rfl, hb1⟩; have hbx := (hbx.below hb1 hbx.lt).more (.cells #[.int .u64 x.not.a, .int .u64 x.not.b, .int .u64 x.not.c, .int .u64 x.not.d] 31); have hNX := bstep hNX hb1; have hNX := hNX.alloc hNX.size (.cells #[.int .u64 x.not.a, .int .u64 x.not.b, .int .u64 x.not.c, .int .u64 x.not.d] 31); clear hb1 z0 z1 z2 z3; obtain ⟨z0, z1, z2, z3⟩ := hbx.cells; have hby := Box4.new w6 x.not; obtain ⟨y0, y1, y2, y3⟩ := hby.cells))
  refine wp_region_held_drew (S := (fun w' => w'.cell? ⟨w6.heap.size, 0, none⟩ = some (.int .u64 x.not.a) ∧ w'.cell? ⟨w6.heap.size, 1, none⟩ = some (.int .u64 x.not.b) ∧ w'.cell? ⟨w6.heap.size, 2, none⟩ = some (.int .u64 x.not.c) ∧ w'.cell? ⟨w6.heap.size, 3, none⟩ = some (.int .u64 x.not.d) ∧ w'.cell? ⟨w4.heap.size, 0, none⟩ = some (.int .u64 x.a) ∧ w'.cell? ⟨w4.heap.size, 1, none⟩ = some (.int .u64 x.b) ∧ w'.cell? ⟨w4.heap.size, 2, none⟩ = some (.int .u64 x.c) ∧ w'.cell? ⟨w4.heap.size, 3, none⟩ = some (.int .u64 x.d))) (by kernel_rfl) ⟨y0, y1, y2, y3, z0, z1, z2, z3⟩ (fun hHeld => ?_)
  refine wpAnyH_take (i := 0) (v := ?_) rfl (by kernel_rfl) (by kernel_rfl) (by kernel_rfl) (fun _ _ _ h => h) (Or.inl ⟨by kernel_rfl, ?_⟩) (by assumption) ?_
  rotate_left
  · (intro w hSw; (try dsimp only at hSw); go_simp; (try with_reducible rfl))
  try simp only [Act.put, List.getElem_toArray, List.getElem_cons_zero, List.getElem_cons_succ, List.setIfInBounds_toArray, List.set_cons_zero, List.set_cons_succ]
  refine wpAnyH_take (i := 1) (v := ?_) rfl (by kernel_rfl) (by kernel_rfl) (by kernel_rfl) (fun _ _ _ h => h) (Or.inl ⟨by kernel_rfl, ?_⟩) (by assumption) ?_
  rotate_left
  · (intro w hSw; (try dsimp only at hSw); go_simp; (try with_reducible rfl))
  try simp only [Act.put, List.getElem_toArray, List.getElem_cons_zero, List.getElem_cons_succ, List.setIfInBounds_toArray, List.set_cons_zero, List.set_cons_succ]
  refine wpAnyH_take (i := 2) (v := ?_) rfl (by kernel_rfl) (by kernel_rfl) (by kernel_rfl) (fun _ _ _ h => h) (Or.inl ⟨by kernel_rfl, ?_⟩) (by assumption) ?_
  rotate_left
  · (intro w hSw; (try dsimp only at hSw); go_simp; (try with_reducible rfl))
  try simp only [Act.put, List.getElem_toArray, List.getElem_cons_zero, List.getElem_cons_succ, List.setIfInBounds_toArray, List.set_cons_zero, List.set_cons_succ]
  refine wpAnyH_take (i := 3) (v := ?_) rfl (by kernel_rfl) (by kernel_rfl) (by kernel_rfl) (fun _ _ _ h => h) (Or.inl ⟨by kernel_rfl, ?_⟩) (by assumption) ?_
  rotate_left
  · (intro w hSw; (try dsimp only at hSw); go_simp; (try with_reducible rfl))
  try simp only [Act.put, List.getElem_toArray, List.getElem_cons_zero, List.getElem_cons_succ, List.setIfInBounds_toArray, List.set_cons_zero, List.set_cons_succ]
  refine wpAnyH_take (i := 4) (v := ?_) rfl (by kernel_rfl) (by kernel_rfl) (by kernel_rfl) (fun _ _ _ h => h) (Or.inl ⟨by kernel_rfl, ?_⟩) (by assumption) ?_
  rotate_left
  · (intro w hSw; (try dsimp only at hSw); go_simp; (try with_reducible rfl))
  try simp only [Act.put, List.getElem_toArray, List.getElem_cons_zero, List.getElem_cons_succ, List.setIfInBounds_toArray, List.set_cons_zero, List.set_cons_succ]
  refine wpAnyH_ready (rs := [5]) (by kernel_rfl) (by simp) (AllReadyH.cons rfl (fun K hK => ?_) AllReadyH.nil)
  go_simp
  go_at_call 18
  refine (HNT.out _).mono ?_
  rintro e' w7 ⟨rfl, hb7⟩
  replace hb7 : Below (w6.alloc (.cells #[.int .u64 x.not.a, .int .u64 x.not.b, .int .u64 x.not.c, .int .u64 x.not.d] 31)).heap.size (w6.alloc (.cells #[.int .u64 x.not.a, .int .u64 x.not.b, .int .u64 x.not.c, .int .u64 x.not.d] 31)) w7 := (Below.refl _ (w6.alloc (.cells #[.int .u64 x.not.a, .int .u64 x.not.b, .int .u64 x.not.c, .int .u64 x.not.d] 31))).drew.trans hb7
  obtain ⟨p0, p1, p2, p3⟩ := (hbx.below hb7 hbx.lt).cells
  obtain ⟨r0, r1, r2, r3⟩ := (hby.below hb7 hby.lt).cells
  have hN7 := bstep hNX hb7
  clear hHeld
  refine hK.out _ _ ⟨r0, r1, r2, r3, p0, p1, p2, p3⟩ (fun hHeld => ?_)
  clear hK K
  try simp only [Act.put, List.getElem_toArray, List.getElem_cons_zero, List.getElem_cons_succ, List.setIfInBounds_toArray, List.set_cons_zero, List.set_cons_succ]
  refine wpAnyH_take (i := 6) (v := ?_) rfl (by kernel_rfl) (by kernel_rfl) (by kernel_rfl) (fun _ _ _ h => h) (Or.inl ⟨by kernel_rfl, ?_⟩) (by assumption) ?_
  rotate_left
  · (intro w hSw; (try dsimp only at hSw); go_simp; (try with_reducible rfl))
  try simp only [Act.put, List.getElem_toArray, List.getElem_cons_zero, List.getElem_cons_succ, List.setIfInBounds_toArray, List.set_cons_zero, List.set_cons_succ]
  refine wpAnyH_take (i := 7) (v := ?_) rfl (by kernel_rfl) (by kernel_rfl) (by kernel_rfl) (fun _ _ _ h => h) (Or.inl ⟨by kernel_rfl, ?_⟩) (by assumption) ?_
  rotate_left
  · (intro w hSw; (try dsimp only at hSw); go_simp; (try with_reducible rfl))
  try simp only [Act.put, List.getElem_toArray, List.getElem_cons_zero, List.getElem_cons_succ, List.setIfInBounds_toArray, List.set_cons_zero, List.set_cons_succ]
  refine wpAnyH_take (i := 8) (v := ?_) rfl (by kernel_rfl) (by kernel_rfl) (by kernel_rfl) (fun _ _ _ h => h) (Or.inl ⟨by kernel_rfl, ?_⟩) (by assumption) ?_
  rotate_left
  · (intro w hSw; (try dsimp only at hSw); go_simp; (try with_reducible rfl))
  try simp only [Act.put, List.getElem_toArray, List.getElem_cons_zero, List.getElem_cons_succ, List.setIfInBounds_toArray, List.set_cons_zero, List.set_cons_succ]
  refine wpAnyH_take (i := 9) (v := ?_) rfl (by kernel_rfl) (by kernel_rfl) (by kernel_rfl) (fun _ _ _ h => h) (Or.inl ⟨by kernel_rfl, ?_⟩) (by assumption) ?_
  rotate_left
  · (intro w hSw; (try dsimp only at hSw); go_simp; (try with_reducible rfl))
  try simp only [Act.put, List.getElem_toArray, List.getElem_cons_zero, List.getElem_cons_succ, List.setIfInBounds_toArray, List.set_cons_zero, List.set_cons_succ]
  refine wpAnyH_take (i := 10) (v := ?_) rfl (by kernel_rfl) (by kernel_rfl) (by kernel_rfl) (fun _ _ _ h => h) (Or.inl ⟨by kernel_rfl, ?_⟩) (by assumption) ?_
  rotate_left
  · (intro w hSw; (try dsimp only at hSw); go_simp; (try with_reducible rfl))
  try simp only [Act.put, List.getElem_toArray, List.getElem_cons_zero, List.getElem_cons_succ, List.setIfInBounds_toArray, List.set_cons_zero, List.set_cons_succ]
  refine wpAnyH_take (i := 11) (v := ?_) rfl (by kernel_rfl) (by kernel_rfl) (by kernel_rfl) (fun _ _ _ h => h) (Or.inl ⟨by kernel_rfl, ?_⟩) (by assumption) ?_
  rotate_left
  · (intro w hSw; (try dsimp only at hSw); go_simp; (try with_reducible rfl))
  try simp only [Act.put, List.getElem_toArray, List.getElem_cons_zero, List.getElem_cons_succ, List.setIfInBounds_toArray, List.set_cons_zero, List.set_cons_succ]
  refine wpAnyH_take (i := 12) (v := ?_) rfl (by kernel_rfl) (by kernel_rfl) (by kernel_rfl) (fun _ _ _ h => h) (Or.inl ⟨by kernel_rfl, ?_⟩) (by assumption) ?_
  rotate_left
  · (intro w hSw; (try dsimp only at hSw); go_simp; (try with_reducible rfl))
  try simp only [Act.put, List.getElem_toArray, List.getElem_cons_zero, List.getElem_cons_succ, List.setIfInBounds_toArray, List.set_cons_zero, List.set_cons_succ]
  refine wpAnyH_take (i := 13) (v := ?_) rfl (by kernel_rfl) (by kernel_rfl) (by kernel_rfl) (fun _ _ _ h => h) (Or.inl ⟨by kernel_rfl, ?_⟩) (by assumption) ?_
  rotate_left
  · (intro w hSw; (try dsimp only at hSw); go_simp; (try with_reducible rfl))
  try simp only [Act.put, List.getElem_toArray, List.getElem_cons_zero, List.getElem_cons_succ, List.setIfInBounds_toArray, List.set_cons_zero, List.set_cons_succ]
  refine wpAnyH_take (i := 14) (v := ?_) rfl (by kernel_rfl) (by kernel_rfl) (by kernel_rfl) (fun _ _ _ h => h) (Or.inl ⟨by kernel_rfl, ?_⟩) (by assumption) ?_
  rotate_left
  · (intro w hSw; (try dsimp only at hSw); go_simp; (try with_reducible rfl))
  try simp only [Act.put, List.getElem_toArray, List.getElem_cons_zero, List.getElem_cons_succ, List.setIfInBounds_toArray, List.set_cons_zero, List.set_cons_succ]
  refine wpAnyH_take (i := 15) (v := ?_) rfl (by kernel_rfl) (by kernel_rfl) (by kernel_rfl) (fun _ _ _ h => h) (Or.inl ⟨by kernel_rfl, ?_⟩) (by assumption) ?_
  rotate_left
  · (intro w hSw; (try dsimp only at hSw); go_simp; (try with_reducible rfl))
  try simp only [Act.put, List.getElem_toArray, List.getElem_cons_zero, List.getElem_cons_succ, List.setIfInBounds_toArray, List.set_cons_zero, List.set_cons_succ]
  refine wpAnyH_take (i := 16) (v := ?_) rfl (by kernel_rfl) (by kernel_rfl) (by kernel_rfl) (fun _ _ _ h => h) (Or.inl ⟨by kernel_rfl, ?_⟩) (by assumption) ?_
  rotate_left
  · (intro w hSw; (try dsimp only at hSw); go_simp; (try with_reducible rfl))
  try simp only [Act.put, List.getElem_toArray, List.getElem_cons_zero, List.getElem_cons_succ, List.setIfInBounds_toArray, List.set_cons_zero, List.set_cons_succ]
  refine wpAnyH_take (i := 17) (v := ?_) rfl (by kernel_rfl) (by kernel_rfl) (by kernel_rfl) (fun _ _ _ h => h) (Or.inl ⟨by kernel_rfl, ?_⟩) (by assumption) ?_
  rotate_left
  · (intro w hSw; (try dsimp only at hSw); go_simp; (try with_reducible rfl))
  try simp only [Act.put, List.getElem_toArray, List.getElem_cons_zero, List.getElem_cons_succ, List.setIfInBounds_toArray, List.set_cons_zero, List.set_cons_succ]
  refine wpAnyH_take (i := 18) (v := ?_) rfl (by kernel_rfl) (by kernel_rfl) (by kernel_rfl) (fun _ _ _ h => h) (Or.inl ⟨by kernel_rfl, ?_⟩) (by assumption) ?_
  rotate_left
  · (intro w hSw; (try dsimp only at hSw); go_simp; (try with_reducible rfl))
  try simp only [Act.put, List.getElem_toArray, List.getElem_cons_zero, List.getElem_cons_succ, List.setIfInBounds_toArray, List.set_cons_zero, List.set_cons_succ]
  refine wpAnyH_take (i := 19) (v := ?_) rfl (by kernel_rfl) (by kernel_rfl) (by kernel_rfl) (fun _ _ _ h => h) (Or.inl ⟨by kernel_rfl, ?_⟩) (by assumption) ?_
  rotate_left
  · (intro w hSw; (try dsimp only at hSw); go_simp; (try with_reducible rfl))
  try simp only [Act.put, List.getElem_toArray, List.getElem_cons_zero, List.getElem_cons_succ, List.setIfInBounds_toArray, List.set_cons_zero, List.set_cons_succ]
  refine wpAnyH_done (by kernel_rfl) ?_ _
  have hfin : (IntKind.i64.wrap ((k : Int) - ((k : Int) + 1)) == IntKind.i64.wrap (1 + ((t.size - 2 : Nat) : Int) - (t.size : Int))) = true := by
    rw [show (k : Int) - ((k : Int) + 1) = 1 + ((t.size - 2 : Nat) : Int) - (t.size : Int) by omega]
    exact beq_self_eq_true _
  rw [hfin]
  go_wp2
  go_ret
  exact ⟨rfl, hN7⟩


theorem short_walk (t : ByteArray) (W : World) (hI : Inv W) :
    Calls Tryd.prog 7 #[.string t] W fun e w' => e = .returned (.bool true) ∧ Below W.heap.size W w' := by
  by_cases ht : t.size ≤ 3000
  · obtain ⟨s, n, e, hU⟩ : ∃ s n e, unl t 0 (t.size + 1) = (s, n, e) := ⟨_, _, _, rfl⟩
    obtain ⟨x, m, f, hV⟩ : ∃ x m f, uncl t 0 (t.size + 2) = (x, m, f) := ⟨_, _, _, rfl⟩
    by_cases hf : f = 0
    · have h1 : 1 < t.size := by
        subst hf
        obtain ⟨S, other, hC⟩ := uncl_is hV
        have := hC.two
        have := hC.le
        omega
      by_cases hc : t[1] = 94
      · by_cases he : e = 0
        · exact short_h t ht W hI s n e hU x m f hV he hf h1 hc
        · exact short_g t ht W hI s n e hU x m f hV he hf h1 hc
      · by_cases he : e = 0
        · exact short_d t ht W hI s n e hU x m f hV he hf h1 hc
        · exact short_c t ht W hI s n e hU x m f hV he hf h1 hc
    · by_cases he : e = 0
      · exact short_b t ht W hI s n e hU x m f hV he hf
      · exact short_a t ht W hI s n e hU x m f hV he hf
  · have hd : decide ((3000 : Int) < (t.size : Int)) = true := by simp; omega
    have HI := Lib.hid hI
    have HN := Lib.hid (Below.refl W.heap.size W)
    clear hI
    go_enter Tryd.func7, Tryd.ntmps7
    go_wp2_with (go_at_call 8; refine (awake_any HI.out HN.out).mono ?_; rintro e w1 ⟨rfl, hb1⟩)
    go_ret
    exact ⟨rfl, hb1⟩
end Go.Proofs.YtjaklcmadkpmdaaDoor
end
