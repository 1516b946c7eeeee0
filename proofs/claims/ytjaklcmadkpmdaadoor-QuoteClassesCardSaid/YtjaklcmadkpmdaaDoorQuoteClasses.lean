/- QuoteClasses: whatever the input, the statement answers yes, and the input reads as before; the listed variables lie as their own initialisers lay them. -/
import Derived.Test.YtjaklcmadkpmdaaDoorCards
import Derived.Test.YtjaklcmadkpmdaaDoorQuoL
import Derived.SevenTiedAt
import Derived.Test.YtjaklcmadkpmdaaDoorSetW
import Derived.Test.YtjaklcmadkpmdaaDoorQuoPa
import Derived.Test.YtjaklcmadkpmdaaDoorQuoSc
import Derived.Test.YtjaklcmadkpmdaaDoorQuoSd
import Derived.Test.YtjaklcmadkpmdaaDoorQuoSe
import Derived.Test.YtjaklcmadkpmdaaDoorQuoPb
section
namespace Go.Proofs.YtjaklcmadkpmdaaDoor
open Go Go.ChangeShapes Go.WideShapes Go.ChangeAt Go.RowKit

/-- A set that came in: four words. -/
theorem open_bytes {H : Type} {enc : TypeId × Value → H} {W : World} {base : Nat} {v : Value} {d : DataW H} {p : List MemPlace} (hv : Value.okWide Tryd.prog W .any base 31 v) (h : DataW.Trod enc Tryd.prog W 0 (fun _ => true) true 31 v d p) :
    ∃ s : S4, s.ok ∧ v = s.v := by
  unfold Value.okWide at hv
  rw [Tryd.underlying31] at hv
  obtain ⟨cs, rfl, hsz, _⟩ := hv
  have c26 : Tryd.prog.cellsOf 31 = 4 := by kernel_rfl
  have c24 : Tryd.prog.cellsOf 29 = 1 := by kernel_rfl
  rw [c26] at hsz
  obtain ⟨fuel, hf⟩ := h
  obtain ⟨xs, m, _, _, _, hn, hel⟩ := DataW.trod_array Tryd.underlying31 hf
  obtain ⟨l⟩ := cs
  match l, hsz with
  | [v0, v1, v2, v3], _ =>
    have key : ∀ (i : Nat) (u : Value), i < 4 → [v0, v1, v2, v3][i]? = some u → ∃ n : Nat, n < 18446744073709551616 ∧ u = .int .u64 n := by
      intro i u hi hu
      have he := hel i hi
      rw [c24] at he
      obtain ⟨y, hy⟩ : ∃ y, xs[i]? = some y := ⟨_, List.getElem?_eq_getElem (by omega)⟩
      rw [hy] at he
      obtain ⟨k, e1, _, hwf⟩ := DataW.trod_int Tryd.underlying29 he
      have hb := bounds_u64 hwf
      obtain ⟨n, rfl⟩ := Int.eq_ofNat_of_zero_le hb.1
      refine ⟨n, by omega, ?_⟩
      simp only [Nat.mul_one] at e1
      have e2 : (([v0, v1, v2, v3].drop i).take 1) = [u] := by
        rw [List.drop_eq_getElem_cons (by simpa using hi)]
        have : [v0, v1, v2, v3][i]'(by simpa using hi) = u := by
          rw [List.getElem?_eq_getElem (by simpa using hi)] at hu
          exact Option.some.inj hu
        rw [this]; rfl
      have e1 : (([v0, v1, v2, v3].drop i).take 1) = [.int .u64 (n : Int)] := e1
      rw [e2] at e1
      simpa using e1
    obtain ⟨n0, h0, rfl⟩ := key 0 v0 (by omega) rfl
    obtain ⟨n1, h1, rfl⟩ := key 1 v1 (by omega) rfl
    obtain ⟨n2, h2, rfl⟩ := key 2 v2 (by omega) rfl
    obtain ⟨n3, h3, rfl⟩ := key 3 v3 (by omega) rfl
    exact ⟨⟨n0, n1, n2, n3⟩, ⟨h0, h1, h2, h3⟩, rfl⟩

end Go.Proofs.YtjaklcmadkpmdaaDoor
end
section
namespace Go.Proofs.YtjaklcmadkpmdaaDoor
open Go Go.RowKit Go.Shelf

theorem expect_bad {r : Rd} {c : UInt8} (h : r.e ≠ 0) : r.expect c = r := by rw [Rd.expect, if_pos h]
theorem uncl_mb (t : ByteArray) (mb n : Nat) : uncl t mb n = uncl t 0 n := by
  have h0 : Sim 0 (rd0 true t mb) (rd0 true t 0) := ⟨rfl, rfl, rfl⟩
  have h1 := h0.expect 91
  unfold uncl
  dsimp only
  rw [h1.e, h1.next 94]
  generalize (decide (((rd0 true t 0).expect 91).e = 0) && ((rd0 true t 0).expect 91).next 94) = b
  have h2 : Sim 0 (if b = true then ((rd0 true t mb).expect 91).up else (rd0 true t mb).expect 91) (if b = true then ((rd0 true t 0).expect 91).up else (rd0 true t 0).expect 91) := by
    cases b
    · exact h1
    · exact h1.up
  obtain ⟨k1, k2, k3⟩ := h2.items n S4.nil
  generalize (if b = true then ((rd0 true t mb).expect 91).up else (rd0 true t mb).expect 91).items n S4.nil = p at k1 k2 k3 ⊢
  generalize (if b = true then ((rd0 true t 0).expect 91).up else (rd0 true t 0).expect 91).items n S4.nil = q at k1 k2 k3 ⊢
  have h3 : SimE 0 (p.2.expect 93) (q.2.expect 93) := by
    by_cases hq : q.2.e = 0
    · have := (k3 hq).expect 93
      exact ⟨this.at_, this.e⟩
    · rw [expect_bad hq, expect_bad (by rw [k2.e]; exact hq)]
      exact k2
  rw [k1, h3.e, show (p.2.expect 93).at' = (q.2.expect 93).at' from h3.at_]
theorem unclass_at {W0 w : World} (hI : Inv W0) (hb0 : Below W0.heap.size W0 w) (t : ByteArray) (hs : t.size ≤ 20000) (n : Nat) (hn : t.size < n) :
    Calls Tryd.prog 14 #[.string t] w fun e w' => e = .returned (unclV (uncl t 0 n)) ∧ Below w.heap.size w w' := by
  have key : ∀ mb, ((rd0 true t mb).expect 91).e = ((rd0 true t 0).expect 91).e ∧ ((rd0 true t mb).expect 91).next 94 = ((rd0 true t 0).expect 91).next 94 := fun mb => by
    have h0 : Sim 0 (rd0 true t mb) (rd0 true t 0) := ⟨rfl, rfl, rfl⟩
    have h1 := h0.expect 91
    exact ⟨h1.e, h1.next 94⟩
  have fin : ∀ {e : Ending} {w' : World}, ((∃ mb, e = .returned (unclV (uncl t mb n))) ∧ Below w.heap.size w w') → e = .returned (unclV (uncl t 0 n)) ∧ Below w.heap.size w w' := by
    rintro e w' ⟨⟨mb, rfl⟩, hb⟩
    rw [uncl_mb]
    exact ⟨rfl, hb⟩
  by_cases he : ((rd0 true t 0).expect 91).e = 0
  · cases hx : ((rd0 true t 0).expect 91).next 94 with
    | false => exact (unclass_plain hI hb0 t hs n hn (fun mb => by rw [(key mb).1, (key mb).2]; exact ⟨he, hx⟩)).mono fun _ _ h => fin h
    | true => exact (unclass_other hI hb0 t hs n hn (fun mb => by rw [(key mb).1, (key mb).2]; exact ⟨he, hx⟩)).mono fun _ _ h => fin h
  · exact (unclass_err hI hb0 t hs n hn (fun mb => by rw [(key mb).1]; exact he)).mono fun _ _ h => fin h
end Go.Proofs.YtjaklcmadkpmdaaDoor
end
section
namespace Go.Proofs.YtjaklcmadkpmdaaDoor
open Go Go.RowKit Go.Shelf
set_option linter.unusedSimpArgs false
set_option linter.unusedVariables false

set_option maxRecDepth 100000 in
set_option maxHeartbeats 4000000 in
theorem classes_walk (s : S4) (hs : s.ok) (t : ByteArray) (W : World) (hI : Inv W) :
    Calls Tryd.prog 4 #[s.v, .string t] W fun e w' => e = .returned (.bool true) ∧ Below W.heap.size W w' := by
  have HI := Lib.hid hI
  clear hI
  have hbs := Box4.new W s
  have hN : Below W.heap.size W (W.alloc (.cells #[.int .u64 s.a, .int .u64 s.b, .int .u64 s.c, .int .u64 s.d] 31)) := (Below.refl _ W).alloc (Nat.le_refl _) _
  by_cases ht : t.size ≤ 3000
  · have d2 : decide ((3000 : Int) < (t.size : Int)) = false := by simp; omega
    obtain ⟨C, hC⟩ : ∃ C : ByteArray, C = ⟨(clsL s).toArray⟩ := ⟨_, rfl⟩
    have hCs : C.size ≤ 2500 := by
      rw [hC]
      show (clsL s).length ≤ 2500
      unfold clsL
      split
      · simp
      · have := clsP_len (rs (lstB s)) _ (Nat.le_refl _)
        have := rs256 s
        rw [List.length_append]
        simp only [List.length_cons, List.length_nil]
        omega
    have HL := Lib.hid (show ∀ w, Below W.heap.size W w → Calls Tryd.prog 13 #[s.v] w fun e w' => e = .returned (.string C) ∧ Below w.heap.size w w' from fun w hb => by rw [hC]; exact class_any HI.out hb s hs)
    have HR := Lib.hid (show ∀ w, Below W.heap.size W w → Calls Tryd.prog 16 #[s.v] w fun e w' => e = .returned (.string C) ∧ Below w.heap.size w w' from fun w hb => by rw [hC]; exact rclass_any HI.out hb s hs)
    clear hC hs
    have c1 : C.size + t.size ≤ 9223372036854775807 := by omega
    have c2 : ¬ (9223372036854775807 < C.size + t.size) := by omega
    have c3 : (⟨#[91]⟩ : ByteArray).size + t.size ≤ 9223372036854775807 := by show 1 + t.size ≤ _; omega
    have c4 : ¬ (9223372036854775807 < (⟨#[91]⟩ : ByteArray).size + t.size) := by omega
    have c5 : ((⟨#[91]⟩ : ByteArray) ++ t).size + (⟨#[93]⟩ : ByteArray).size ≤ 9223372036854775807 := by rw [ByteArray.size_append]; show 1 + t.size + 1 ≤ _; omega
    have c6 : ¬ (9223372036854775807 < ((⟨#[91]⟩ : ByteArray) ++ t).size + (⟨#[93]⟩ : ByteArray).size) := by omega
    have c7 : (⟨#[91, 94]⟩ : ByteArray).size + t.size ≤ 9223372036854775807 := by show 2 + t.size ≤ _; omega
    have c8 : ¬ (9223372036854775807 < (⟨#[91, 94]⟩ : ByteArray).size + t.size) := by omega
    have c9 : ((⟨#[91, 94]⟩ : ByteArray) ++ t).size + (⟨#[93]⟩ : ByteArray).size ≤ 9223372036854775807 := by rw [ByteArray.size_append]; show 2 + t.size + 1 ≤ _; omega
    have c0 : ¬ (9223372036854775807 < ((⟨#[91, 94]⟩ : ByteArray) ++ t).size + (⟨#[93]⟩ : ByteArray).size) := by omega
    have b1 : (C ++ t).size ≤ 20000 := by rw [ByteArray.size_append]; omega
    have b2 : ((⟨#[91]⟩ : ByteArray) ++ t ++ (⟨#[93]⟩ : ByteArray)).size ≤ 20000 := by rw [ByteArray.size_append, ByteArray.size_append]; show 1 + t.size + 1 ≤ _; omega
    have b3 : ((⟨#[91, 94]⟩ : ByteArray) ++ t ++ (⟨#[93]⟩ : ByteArray)).size ≤ 20000 := by rw [ByteArray.size_append, ByteArray.size_append]; show 2 + t.size + 1 ≤ _; omega
    go_enter Tryd.func4, Tryd.ntmps4
    obtain ⟨x0, x1, x2, x3⟩ := hbs.cells
    go_wp2_with (go_at_call 13; refine (HL.out _ hN).mono ?_; rintro e w1 ⟨rfl, hb1⟩; have hbs1 := hbs.below hb1 hbs.lt; have hN1 := bstep hN hb1; clear hb1 hN hbs x0 x1 x2 x3)
    obtain ⟨X, hX⟩ : ∃ X : World, X = w1.alloc (.cells #[.string t, .string C, .string (C ++ t), .string ((⟨#[91]⟩ : ByteArray) ++ t ++ (⟨#[93]⟩ : ByteArray)), .string ((⟨#[91, 94]⟩ : ByteArray) ++ t ++ (⟨#[93]⟩ : ByteArray))] 9) := ⟨_, rfl⟩
    rw [← hX]
    have hXs : X.heap.size = w1.heap.size + 1 := by rw [hX]; simp
    have HT := Lib.hid (show ∀ j : Nat, j < 5 → ∃ x : ByteArray, X.cell? ⟨w1.heap.size, j, none⟩ = some (.string x) ∧ x.size ≤ 20000 from fun j hj => by
      have k : ∀ i u, (#[Value.string t, .string C, .string (C ++ t), .string ((⟨#[91]⟩ : ByteArray) ++ t ++ (⟨#[93]⟩ : ByteArray)), .string ((⟨#[91, 94]⟩ : ByteArray) ++ t ++ (⟨#[93]⟩ : ByteArray))] : Array Value)[i]? = some u → X.cell? ⟨w1.heap.size, i, none⟩ = some u := fun i u h => by
        rw [hX]
        exact (Lib.cell_of_heap (heap_alloc_new _ _) i).trans h
      have : j = 0 ∨ j = 1 ∨ j = 2 ∨ j = 3 ∨ j = 4 := by omega
      rcases this with rfl | rfl | rfl | rfl | rfl
      · exact ⟨_, k 0 _ rfl, by omega⟩
      · exact ⟨_, k 1 _ rfl, by omega⟩
      · exact ⟨_, k 2 _ rfl, b1⟩
      · exact ⟨_, k 3 _ rfl, b2⟩
      · exact ⟨_, k 4 _ rfl, b3⟩)
    have HX := Lib.hid (show Below W.heap.size W X by rw [hX]; exact hN1.alloc hN1.size _)
    have HSX := Lib.hid (show Box4 X W.heap.size s by rw [hX]; exact hbs1.alloc _)
    clear hX c1 c2 c3 c4 c5 c6 c7 c8 c9 c0 b1 b2 b3 d2 hCs hbs1 hN1
    go_loopw [33] (fun i wr => ∃ j : Nat, j ≤ 5 ∧ i = .int .i64 j ∧ Below X.heap.size X wr) (fun i _ => 5 - (intOf i).toNat)
    case atStart => exact ⟨0, by omega, rfl, Below.refl _ _⟩
    case round =>
      obtain ⟨j, hj, rfl, hb⟩ := hrel
      have HW := Lib.hid (HX.out.trans (hb.mono HX.out.size))
      by_cases hj4 : j < 5
      · obtain ⟨x, hx, hxs⟩ := HT.out j hj4
        have hx1 : wr.cell? ⟨w1.heap.size, j, none⟩ = some (.string x) := (hb.cell (p := ⟨w1.heap.size, j, none⟩) (by show w1.heap.size < X.heap.size; omega)).trans hx
        have hjin : (j : Int) < 5 := by omega
        obtain ⟨u, hu⟩ : ∃ u, u = uncl x 0 (x.size + 1) := ⟨_, rfl⟩
        obtain ⟨a, m, f⟩ := u
        have HU1 := Lib.hid (show ∀ w, Below W.heap.size W w → Calls Tryd.prog 14 #[.string x] w fun e w' => e = .returned (.tuple #[a.v, .int .i64 m, .int .i64 f]) ∧ Below w.heap.size w w' from fun w hb => by have := unclass_at HI.out hb x hxs (x.size + 1) (Nat.lt_succ_self _); rw [← hu] at this; exact this)
        have HU2 := Lib.hid (show ∀ w, Below W.heap.size W w → Calls Tryd.prog 15 #[.string x] w fun e w' => e = .returned (.tuple #[a.v, .int .i64 m, .int .i64 f]) ∧ Below w.heap.size w w' from fun w hb => by have := runclass_at HI.out hb x hxs (x.size + 1) (Nat.lt_succ_self _); rw [← hu] at this; exact this)
        clear hu hx hxs
        go_wp2_with (first
          | (go_at_call 14; refine (HU1.out _ HW.out).mono ?_; rintro e w2 ⟨rfl, hb2⟩; have hA2 := Box4.new w2 a; have hbA := (hb.trans (hb2.mono hb.size)).alloc (by have := hb.size; have := hb2.size; omega) (.cells #[.int .u64 a.a, .int .u64 a.b, .int .u64 a.c, .int .u64 a.d] 31); have HW2 := Lib.hid (HX.out.trans (hbA.mono HX.out.size)))
          | (go_at_call 15; refine (HU2.out _ HW2.out).mono ?_; rintro e w3 ⟨rfl, hb3⟩; have hA3 := (hA2.below hb3 hA2.lt).alloc (.cells #[.int .u64 a.a, .int .u64 a.b, .int .u64 a.c, .int .u64 a.d] 31); have hB3 := Box4.new w3 a; have hbB := (hbA.trans (hb3.mono hbA.size)).alloc (by have := hbA.size; have := hb3.size; omega) (.cells #[.int .u64 a.a, .int .u64 a.b, .int .u64 a.c, .int .u64 a.d] 31); obtain ⟨y0, y1, y2, y3⟩ := Box4.cells hA3; obtain ⟨z0, z1, z2, z3⟩ := hB3.cells))
        go_roundw
        case rel => exact ⟨j + 1, by omega, by go_num, hbB⟩
        case measure => simp [intOf]; omega
      · obtain rfl : j = 5 := by omega
        obtain ⟨x0, x1, x2, x3⟩ := (HSX.out.below hb HSX.out.lt).cells
        go_wp2_with (first
          | (go_at_call 16; refine (HR.out _ HW.out).mono ?_; rintro e w2 ⟨rfl, hb2⟩; have HW2 := Lib.hid (bstep HW.out hb2))
          | (go_at_call 8; refine (awake_any HI.out HW2.out).mono ?_; rintro e w3 ⟨rfl, hb3⟩))
        go_ret
        exact ⟨rfl, bstep HW2.out hb3⟩
  · have d2 : decide ((3000 : Int) < (t.size : Int)) = true := by simp; omega
    go_enter Tryd.func4, Tryd.ntmps4
    go_wp2_with (go_at_call 8; refine (awake_any HI.out hN).mono ?_; rintro e w1 ⟨rfl, hb1⟩)
    go_ret
    exact ⟨rfl, bstep hN hb1⟩
end Go.Proofs.YtjaklcmadkpmdaaDoor
end
namespace Go.Proofs.YtjaklcmadkpmdaaDoor.quoteClasses
open Go Go.ChangeShapes Go.WideShapes Go.ChangeAt Go.RowKit

set_option maxRecDepth 100000 in
theorem lifted (os : Os) (started : os.Started) (H : Type) (enc : TypeId × Value → H) :
    ReturnsInHanded {} Tryd.checked os 4 .any (fun w args => (Rows.quoteClassesSpec.pre enc Tryd.prog Tryd.f4 [] false w args ∧ laidMetH Tryd.prog laidT w) ∧ sizedMet enc Tryd.prog Tryd.f4 (OpenSpec.ofChange Rows.quoteClassesSpec) false w args)
      (Rows.quoteClassesSpec.post enc Tryd.prog Tryd.f4 false true false false) := by
  refine law_lifted 4 Tryd.f4 Rows.quoteClassesSpec rfl Tryd.func4 (by kernel_rfl) ?_ rfl (by kernel_rfl)
    (ChangeSpec.witness_shaped (enc := enc) (C := Tryd.checked) (os := os) (X := fun w _ => laidMetH Tryd.prog laidT w) false (World.doorLaid Tryd.prog 60 os) #[.agg #[.int .u64 0, .int .u64 0, .int .u64 0, .int .u64 0], .string ⟨#[]⟩] 8 rfl (World.shaped_of_RefB (by kernel_rfl) (by kernel_rfl)) (by kernel_rfl) (by kernel_rfl) (by kernel_rfl) (door_met os _)) ?_ started
  · intro H ds hd
    match ds, hd with
    | [d0, d1], _ => rfl
  · intro W base args ds ps hI hval hA hps
    rw [Tryd.params4] at hA hval
    obtain ⟨v0, vs0, d0, ds0, p0, q0, hargs, rfl, rfl, h0, r0⟩ := trodAll_cons hA
    obtain ⟨v1, vs1, d1, ds1, p1, q1, rfl, rfl, rfl, h1, r1⟩ := trodAll_cons r0
    obtain ⟨rfl, rfl, rfl⟩ := trodAll_nil r1
    obtain rfl : args = #[v0, v1] := by cases args; simp_all
    obtain ⟨s, hss, rfl⟩ := open_bytes (hval 0 31 v0 rfl rfl) h0
    obtain ⟨t, rfl, _⟩ := open_string (hval 1 9 v1 rfl rfl) h1
    exact classes_walk s hss t W hI

theorem in_place : (Rows.quoteClassesRow.inPlace == Tryd.prog.inPlace 4) = true := by kernel_rfl
theorem unfollowed : (Rows.quoteClassesRow.unfollowed == Tryd.prog.unfollowed 4) = true := by kernel_rfl
theorem recurses : (Rows.quoteClassesRow.recurses == Tryd.prog.recurses 4) = true := by kernel_rfl
theorem names_vars : (Rows.quoteClassesRow.named == Tryd.prog.varsNamed 4) = true := by kernel_rfl

theorem closed : joinedFacts Tryd.prog 4 Tryd.f4 Rows.quoteClassesSpec Rows.quoteClassesRow = true := by
  unfold joinedFacts
  rw [in_place, unfollowed, recurses, names_vars]
  kernel_rfl

theorem row_holds : Rows.QuoteClassesSaid :=
  OpenClaim.holds_of_wide 4 Tryd.f4 rfl rfl rfl rfl rfl rfl rfl ⟨rfl, rfl, rfl, rfl, rfl⟩ rfl rfl rfl rfl rfl (by kernel_rfl) Tryd.func4 closed
    (of_decide_eq_true (by kernel_rfl)) (by unfold Func.isWrapper; first | (rw [if_pos (by decide +kernel)]; kernel_rfl) | (rw [if_neg (by decide +kernel)]; exact ⟨rfl, rfl⟩))
    (fun os started H enc _ => lifted os started H enc)

theorem by_text : Rows.quoteClassesRow.wfByText (OpenSpec.ofChange Rows.quoteClassesSpec) = true := by kernel_rfl
theorem main_is : Tryd.prog.mainIs = some (Rows.quoteClassesCard.stood.harness.1, Rows.quoteClassesCard.stood.harness.2.toList) := by kernel_rfl
theorem no_looks : false = Tryd.prog.looks [] := by kernel_rfl
theorem no_goes : false = Rows.quoteClassesRow.goesBy Tryd.prog := by kernel_rfl

theorem proved : Rows.QuoteClassesCardSaid :=
  Claim7.holds_tied_plain_at .later [] [.data] true Rows.quoteClassesCard.stood.harness false
    row_holds (fun _ h => by cases h) by_text (fun _ h => by cases h) quoteClasses_row_tie rfl ⟨rfl, rfl⟩ main_is rfl
    (fun f fn hf hfn => by
      obtain rfl : f = 4 := Option.some.inj ((show Tryd.prog.funcNamed "bonsai/bonsailaw03.QuoteClasses" = some 4 by kernel_rfl).symm.trans hf) |>.symm
      obtain rfl : fn = Tryd.f4 := (Option.some.inj (Tryd.func4.symm.trans hfn)).symm
      exact ⟨no_looks, fun j t ht => by
        rw [Tryd.params4] at ht
        have hm := Array.mem_of_getElem? ht
        have hall : ([31, 9].all fun u => !Tryd.prog.wantsStandIn u) = true := by kernel_rfl
        exact (show Tryd.prog.wantsStandIn t = false by simpa using List.all_eq_true.1 hall t (by simpa using hm))⟩)
    no_goes
end Go.Proofs.YtjaklcmadkpmdaaDoor.quoteClasses
