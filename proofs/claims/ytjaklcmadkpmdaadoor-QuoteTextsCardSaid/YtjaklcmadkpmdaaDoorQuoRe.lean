/- The document's sign is the reader's. -/
import Derived.Test.YtjaklcmadkpmdaaDoorQuoRc
import Derived.Laws.Closers25b
section
namespace Go.Proofs.YtjaklcmadkpmdaaDoor
open Go Go.RowKit Go.Shelf
set_option linter.unusedSimpArgs false
set_option linter.unusedVariables false

theorem findP_spec (cls : Bool) : ∀ n : Nat, n < 256 → findP (behL cls) n = if n = 110 then some 10 else if n = 114 then some 13 else if n = 116 then some 9 else if (specL cls).contains n then some n else none := by
  have h : ∀ cls : Bool, below (fun n => findP (behL cls) n == (if n = 110 then some 10 else if n = 114 then some 13 else if n = 116 then some 9 else if (specL cls).contains n then some n else none)) 256 = true := fun cls => by cases cls <;> kernel_rfl
  intro n hn
  exact eq_of_beq (below_ok (h cls) n hn)

theorem digit_end {r : Rd} (he : r.e = 0) (h : r.text.size ≤ r.at') : r.digit = (0, r.bad) := by
  have hc : r.cur = none := by unfold Rd.cur; exact Array.getElem?_eq_none (by exact h)
  unfold Rd.digit
  rw [if_neg (by simpa using he), hc]
theorem cur_at {r : Rd} (h : r.at' < r.text.size) : r.cur = some r.text[r.at'] := by unfold Rd.cur; exact Array.getElem?_eq_getElem _
theorem digit_neg {r : Rd} (he : r.e = 0) (h : r.at' < r.text.size) (hz : hexZ r.text[r.at'] < 0) : r.digit = (0, r.bad) := by
  unfold Rd.digit
  rw [if_neg (by simpa using he), cur_at h]
  dsimp only
  rw [if_neg (by omega)]
theorem digit_pos {r : Rd} (he : r.e = 0) (h : r.at' < r.text.size) (hz : 0 ≤ hexZ r.text[r.at']) : r.digit = (hexZ r.text[r.at'], r.up) := by
  unfold Rd.digit
  rw [if_neg (by simpa using he), cur_at h]
  dsimp only
  rw [if_pos hz]
  rfl
theorem digit_bad {r : Rd} (he : r.e ≠ 0) : r.digit = (0, r) := by unfold Rd.digit; rw [if_pos he]
theorem sgV_err {x : UInt8} {r : Rd} : sgV (x, r.bad) = .tuple #[.int .u8 0, .int .i64 r.at', .int .i64 (if r.text.size ≤ r.at' then 8 else 4 : Nat)] := by
  unfold sgV
  rw [if_neg r.bad_e]
  rfl

set_option maxHeartbeats 4000000 in
theorem rsign_any (cls : Bool) {W0 W : World} (hI : Inv W0) (hb0 : Below W0.heap.size W0 W) (r : Rd) (he : r.e = 0) (hat : r.at' ≤ r.text.size) (hs : r.text.size ≤ 1000000000) :
    Calls Tryd.prog 29 #[.string r.text, .int .i64 r.at', .string (specB cls)] W fun e w' => e = .returned (sgV (r.sign cls)) ∧ Below W.heap.size W w' := by
  by_cases h : r.at' < r.text.size
  · have hc := cur_at h
    have hu := UInt8.toNat_lt r.text[r.at']
    by_cases h92 : r.text[r.at'].toNat = 92
    · have hbg : beginsB cls r.text[r.at'] = true := by
        unfold beginsB
        have : ((r.text[r.at'].toNat : Int) == 92) = true := by rw [beq_iff_eq]; omega
        rw [this, Bool.true_or]
      by_cases h2 : r.at' + 1 < r.text.size
      · have hc2 : r.up.cur = some r.text[r.at' + 1] := cur_at (r := r.up) h2
        have hu2 := UInt8.toNat_lt r.text[r.at' + 1]
        by_cases hx : r.text[r.at' + 1].toNat = 120
        · have hn : r.up.next 120 = true := by
            unfold Rd.next
            rw [hc2, beq_iff_eq, Option.some.injEq]
            exact UInt8.toNat_inj.1 hx
          have hS : r.sign cls = (UInt8.ofNat r.up.up.hex.1.toNat, r.up.up.hex.2) := by
            unfold Rd.sign
            rw [hc]
            dsimp only
            rw [if_neg (by rw [hbg]; simp), if_neg (by simpa using h92), if_pos hn]
          rw [hS]
          unfold Rd.hex
          by_cases h3 : r.at' + 2 < r.text.size
          · by_cases k1 : 0 ≤ hexZ r.text[r.at' + 2]
            · rw [digit_pos (r := r.up.up) he h3 k1]
              dsimp only
              by_cases h4 : r.at' + 3 < r.text.size
              · by_cases k3 : 0 ≤ hexZ r.text[r.at' + 3]
                · rw [digit_pos (r := r.up.up.up) he h4 k3]
                  dsimp only
                  have hS := rs_x4 cls hI hb0 r.text r.at' hs h (by omega) (by omega) h92 h2 hx h3 k1 h4 k3
                  rw [sgV_ok (r := r.up.up.up.up) he]
                  have z1 := hexZ_lt r.text[r.at' + 2]
                  have z3 := hexZ_lt r.text[r.at' + 3]
                  have e : ((UInt8.ofNat (16 * hexZ r.up.up.text[r.up.up.at'] + hexZ r.up.up.up.text[r.up.up.up.at']).toNat).toNat : Int) = hexZ r.text[r.at' + 2] * 16 + hexZ r.text[r.at' + 3] := by
                    show ((UInt8.ofNat (16 * hexZ r.text[r.at' + 2] + hexZ r.text[r.at' + 3]).toNat).toNat : Int) = _
                    rw [UInt8.toNat_ofNat']
                    omega
                  rw [e]
                  exact hS
                · have hS := rs_x3 cls hI hb0 r.text r.at' hs h (by omega) (by omega) h92 h2 hx h3 k1 h4 (by omega)
                  rw [digit_neg (r := r.up.up.up) he h4 (by show hexZ r.text[r.at' + 3] < 0; omega)]
                  dsimp only
                  rw [sgV_err, if_neg (by show ¬ r.text.size ≤ r.at' + 3; omega)]
                  exact hS
              · have hS := rs_x2 cls hI hb0 r.text r.at' hs h (by omega) (by omega) h92 h2 hx h3 k1 (by omega)
                rw [digit_end (r := r.up.up.up) he (by show r.text.size ≤ r.at' + 3; omega)]
                dsimp only
                rw [sgV_err, if_pos (by show r.text.size ≤ r.at' + 3; omega), show r.up.up.up.at' = r.text.size by show r.at' + 3 = _; omega]
                exact hS
            · have hS := rs_x1 cls hI hb0 r.text r.at' hs h (by omega) (by omega) h92 h2 hx h3 (by omega)
              rw [digit_neg (r := r.up.up) he h3 (by show hexZ r.text[r.at' + 2] < 0; omega)]
              dsimp only
              rw [digit_bad r.up.up.bad_e]
              dsimp only
              rw [sgV_err, if_neg (by show ¬ r.text.size ≤ r.at' + 2; omega)]
              exact hS
          · have hS := rs_x0 cls hI hb0 r.text r.at' hs h (by omega) (by omega) h92 h2 hx (by omega)
            rw [digit_end (r := r.up.up) he (by show r.text.size ≤ r.at' + 2; omega)]
            dsimp only
            rw [digit_bad r.up.up.bad_e]
            dsimp only
            rw [sgV_err, if_pos (by show r.text.size ≤ r.at' + 2; omega), show r.up.up.at' = r.text.size by show r.at' + 2 = _; omega]
            exact hS
        · have hn : r.up.next 120 = false := by
            unfold Rd.next
            rw [hc2, beq_eq_false_iff_ne]
            intro k
            apply hx
            rw [Option.some.inj k]
            rfl
          have hS : r.sign cls = (match findP (behL cls) r.text[r.at' + 1].toNat with
              | some v => (UInt8.ofNat v, r.up.up)
              | none => (0, r.up.bad)) := by
            unfold Rd.sign
            rw [hc]
            dsimp only
            rw [if_neg (by rw [hbg]; simp), if_neg (by simpa using h92), if_neg (by rw [hn]; simp), hc2]
            rfl
          rw [hS, findP_spec cls _ hu2]
          by_cases n0 : r.text[r.at' + 1].toNat = 110
          · rw [if_pos n0]
            dsimp only
            rw [sgV_ok (r := r.up.up) he]
            exact rs_n cls hI hb0 r.text r.at' hs h (by omega) (by omega) h92 h2 n0
          rw [if_neg n0]
          by_cases n1 : r.text[r.at' + 1].toNat = 114
          · rw [if_pos n1]
            dsimp only
            rw [sgV_ok (r := r.up.up) he]
            exact rs_r cls hI hb0 r.text r.at' hs h (by omega) (by omega) h92 h2 n0 n1
          rw [if_neg n1]
          by_cases n2 : r.text[r.at' + 1].toNat = 116
          · rw [if_pos n2]
            dsimp only
            rw [sgV_ok (r := r.up.up) he]
            exact rs_t cls hI hb0 r.text r.at' hs h (by omega) (by omega) h92 h2 n0 n1 n2
          rw [if_neg n2]
          cases hw : (specL cls).contains r.text[r.at' + 1].toNat
          · rw [if_neg (by simp)]
            dsimp only
            rw [sgV_err, if_neg (by show ¬ r.text.size ≤ r.at' + 1; omega)]
            exact rs_form cls hI hb0 r.text r.at' hs h (by omega) (by omega) h92 h2 n0 n1 n2 hw hx
          · rw [if_pos rfl]
            dsimp only
            rw [sgV_ok (r := r.up.up) he]
            have e : (UInt8.ofNat r.text[r.at' + 1].toNat).toNat = r.text[r.at' + 1].toNat := by rw [UInt8.ofNat_toNat]
            rw [e]
            exact rs_back cls hI hb0 r.text r.at' hs h (by omega) (by omega) h92 h2 n0 n1 n2 hw
      · have hc2 : r.up.cur = none := by unfold Rd.cur; exact Array.getElem?_eq_none (by show r.text.size ≤ r.at' + 1; omega)
        have hn : r.up.next 120 = false := by unfold Rd.next; rw [hc2]; rfl
        have hS : r.sign cls = (0, r.up.bad) := by
          unfold Rd.sign
          rw [hc]
          dsimp only
          rw [if_neg (by rw [hbg]; simp), if_neg (by simpa using h92), if_neg (by rw [hn]; simp), hc2]
        rw [hS, sgV_err, if_pos (by show r.text.size ≤ r.at' + 1; omega), show r.up.at' = r.text.size by show r.at' + 1 = _; omega]
        exact rs_end cls hI hb0 r.text r.at' hs h (by omega) (by omega) h92 (by omega)
    · have hbg : beginsB cls r.text[r.at'] = (decide (32 ≤ r.text[r.at'].toNat) && decide (r.text[r.at'].toNat ≤ 126) && !(specL cls).contains r.text[r.at'].toNat) := by
        rw [← plain_spec cls _ hu h92]
        unfold beginsB plainB
        have : ((r.text[r.at'].toNat : Int) == 92) = false := by rw [beq_eq_false_iff_ne]; omega
        rw [this, Bool.false_or]
      have bad : beginsB cls r.text[r.at'] = false → r.sign cls = (0, r.bad) := fun k => by
        unfold Rd.sign
        rw [hc]
        dsimp only
        rw [if_pos k]
      by_cases hl : r.text[r.at'].toNat < 32
      · rw [bad (by rw [hbg]; simp; omega), sgV_err, if_neg (by omega)]
        exact rs_low cls hI hb0 r.text r.at' hs h hl
      by_cases hh : 126 < r.text[r.at'].toNat
      · rw [bad (by rw [hbg]; simp; omega), sgV_err, if_neg (by omega)]
        exact rs_high cls hI hb0 r.text r.at' hs h hh
      cases hw : (specL cls).contains r.text[r.at'].toNat
      · have hbt : beginsB cls r.text[r.at'] = true := by rw [hbg, hw]; simp; omega
        have hS : r.sign cls = (r.text[r.at'], r.up) := by
          unfold Rd.sign
          rw [hc]
          dsimp only
          rw [if_neg (by rw [hbt]; simp), if_pos h92]
        rw [hS, sgV_ok (r := r.up) he]
        exact rs_bare cls hI hb0 r.text r.at' hs h (by omega) (by omega) h92 hw
      · rw [bad (by rw [hbg, hw]; simp), sgV_err, if_neg (by omega)]
        exact rs_spec cls hI hb0 r.text r.at' hs h (by omega) (by omega) h92 hw
  · have hc : r.cur = none := by unfold Rd.cur; exact Array.getElem?_eq_none (by show r.text.size ≤ r.at'; omega)
    have hS : r.sign cls = (0, r.bad) := by unfold Rd.sign; rw [hc]
    rw [hS, sgV_err, if_pos (by omega), show r.at' = r.text.size by omega]
    exact rs_none cls hI hb0 r.text r.text.size hs (Nat.le_refl _)
end Go.Proofs.YtjaklcmadkpmdaaDoor
end
section
namespace Go.Proofs.YtjaklcmadkpmdaaDoor
open Go Go.RowKit Go.Shelf
set_option linter.unusedSimpArgs false
set_option linter.unusedVariables false

/-- The same reader with another map. -/
def Rd.re (r : Rd) (m : Value) : Rd := { r with mp := m }
theorem digit_re (r : Rd) (m : Value) : (r.re m).digit = (r.digit.1, r.digit.2.re m) := by
  unfold Rd.digit
  show (if r.e ≠ 0 then (0, r.re m) else match r.cur with
    | some c => if 0 ≤ hexZ c then (hexZ c, r.up.re m) else (0, r.bad.re m)
    | none => (0, r.bad.re m)) = _
  by_cases he : r.e = 0
  · rw [if_neg (by simpa using he), if_neg (by simpa using he)]
    cases r.cur with
    | none => rfl
    | some c =>
      dsimp only
      split <;> rfl
  · rw [if_pos he, if_pos he]
theorem sign_re (cls : Bool) (r : Rd) (m : Value) : (r.re m).sign cls = ((r.sign cls).1, (r.sign cls).2.re m) := by
  unfold Rd.sign
  show (match r.cur with
    | none => ((0 : UInt8), r.bad.re m)
    | some c => if beginsB cls c = false then (0, r.bad.re m) else if c.toNat ≠ 92 then (c, r.up.re m)
      else if r.up.next 120 = true then (UInt8.ofNat (r.up.up.re m).hex.1.toNat, (r.up.up.re m).hex.2)
      else match r.up.cur with
        | none => (0, r.up.bad.re m)
        | some d => match findP (behL cls) d.toNat with
          | some v => (UInt8.ofNat v, r.up.up.re m)
          | none => (0, r.up.bad.re m)) = _
  have hx : (r.up.up.re m).hex = (r.up.up.hex.1, r.up.up.hex.2.re m) := by
    unfold Rd.hex
    rw [digit_re]
    dsimp only
    rw [digit_re]
  rw [hx]
  cases r.cur with
  | none => rfl
  | some c =>
    dsimp only
    split
    · rfl
    · split
      · rfl
      · split
        · rfl
        · cases r.up.cur with
          | none => rfl
          | some d =>
            dsimp only
            cases findP (behL cls) d.toNat <;> rfl
theorem lit_re (cls : Bool) (q : UInt8) (m : Value) : ∀ (n : Nat) (r : Rd), (r.re m).lit cls q n = ((r.lit cls q n).1, (r.lit cls q n).2.re m)
  | 0, r => rfl
  | n + 1, r => by
    rw [Rd.lit, Rd.lit]
    show (match r.cur with
      | none => (([] : List UInt8), r.bad.re m)
      | some c => if c = q then ([], r.up.re m) else if ((r.re m).sign cls).2.e ≠ 0 then ([], ((r.re m).sign cls).2) else (((r.re m).sign cls).1 :: (((r.re m).sign cls).2.lit cls q n).1, (((r.re m).sign cls).2.lit cls q n).2)) = _
    rw [sign_re]
    dsimp only
    rw [lit_re cls q m n]
    cases r.cur with
    | none => rfl
    | some c =>
      dsimp only
      split
      · rfl
      · show (if (r.sign cls).2.e ≠ 0 then _ else _) = _
        split <;> rfl
theorem unl_mb (t : ByteArray) (mb n : Nat) : unl t mb n = unl t 0 n := by
  have h0 : (rd0 false t mb).expect 34 = ((rd0 false t 0).expect 34).re (.map (some mb)) := by
    unfold Rd.expect
    show (if (rd0 false t 0).e ≠ 0 then (rd0 false t 0).re _ else if (rd0 false t 0).next 34 = true then (rd0 false t 0).up.re _ else (rd0 false t 0).bad.re _) = _
    split
    · rfl
    · split <;> rfl
  unfold unl
  rw [h0]
  dsimp only
  rw [lit_re]
  rfl

/-- The developers' Unliteral, told without its map. -/
theorem unliteral_at {W0 w : World} (hI : Inv W0) (hb0 : Below W0.heap.size W0 w) (t : ByteArray) (hs : t.size ≤ 20000) :
    Calls Tryd.prog 10 #[.string t] w fun e w' => e = .returned (unlV (unl t 0 (t.size + 1))) ∧ Below w.heap.size w w' :=
  (unliteral_any hI hb0 t hs (t.size + 1) (by omega)).mono fun e w' ⟨⟨mb, h⟩, hB⟩ => ⟨by rw [h, unl_mb], hB⟩

attribute [local go_sem] Oper.semAt_some

/-- Where the document's walk along a literal stands. -/
def Lit (r0 : Rd) (pre : List UInt8) (s : Rd) : Prop := pre.length ≤ s.at' ∧ ∀ M, r0.lit false 34 (pre.length + M) = (pre ++ (s.lit false 34 M).1, (s.lit false 34 M).2)
theorem Lit.step {r0 s t : Rd} {pre : List UInt8} {x c : UInt8} (h : Lit r0 pre s) (hc : s.cur = some c) (hq : c ≠ 34) (hl : s.at' ≤ s.text.size) (hs : s.sign false = (x, t)) (ht : t.e = 0) : Lit r0 (pre ++ [x]) t := by
  have ho := s.sign_on false hl
  rw [hs] at ho
  dsimp only at ho
  refine ⟨by have := ho.2 ht; have := h.1; simp; omega, fun M => ?_⟩
  have e : s.lit false 34 (M + 1) = (x :: (t.lit false 34 M).1, (t.lit false 34 M).2) := by
    rw [Rd.lit, hc]
    dsimp only
    rw [if_neg hq, hs, if_neg (by simpa using ht)]
  have := h.2 (M + 1)
  rw [e] at this
  rw [show (pre ++ [x]).length + M = pre.length + (M + 1) by simp; omega, this]
  simp
theorem Lit.fin {r0 s f : Rd} {pre : List UInt8} (h : Lit r0 pre s) (n : Nat) (hn : pre.length < n) (hf : ∀ m, s.lit false 34 (m + 1) = ([], f)) : r0.lit false 34 n = (pre, f) := by
  obtain ⟨m, rfl⟩ : ∃ m, n = pre.length + (m + 1) := ⟨n - pre.length - 1, by omega⟩
  rw [h.2, hf]
  simp
/-- A reader behind its first quote. -/
def rd1 (t : ByteArray) : Rd := (rd0 false t 0).up
theorem unl_rd1 {t : ByteArray} (h : 0 < t.size) (hq : t[0] = 34) (n : Nat) {pre : List UInt8} {f : Rd} (hl : (rd1 t).lit false 34 n = (pre, f)) :
    unl t 0 n = if f.e ≠ 0 then (⟨#[]⟩, f.at', f.e) else if 255 < pre.length then (⟨#[]⟩, 0, 40) else (⟨pre.toArray⟩, f.at', 0) := by
  have hx : (rd0 false t 0).expect 34 = rd1 t := by
    have hn : (rd0 false t 0).next 34 = true := by
      unfold Rd.next
      rw [show (rd0 false t 0).cur = some t[0] from cur_at (r := rd0 false t 0) h, hq]
      exact beq_self_eq_true _
    unfold Rd.expect
    rw [if_neg (by exact fun k => k rfl), if_pos hn]
    rfl
  unfold unl
  rw [hx]
  dsimp only
  rw [hl, if_neg (by exact fun k => k rfl)]

set_option maxRecDepth 100000 in
set_option maxHeartbeats 4000000 in
theorem runl_none {w : World} (t : ByteArray) (hs : t.size = 0) (n : Nat) :
    Calls Tryd.prog 11 #[.string t] w fun e w' => e = .returned (unlV (unl t 0 n)) ∧ Below w.heap.size w w' := by
  obtain rfl : t = ⟨#[]⟩ := by
    cases t with
    | mk d => congr 1; exact Array.eq_empty_of_size_eq_zero hs
  have hU : unl ⟨#[]⟩ 0 n = (⟨#[]⟩, 0, 8) := rfl
  rw [hU]
  refine callsIn_wide.1 (?_ : CallsIn Fence.wide 2 _ _ _ _ _)
  refine callsIn_of_wp Tryd.func11 rfl trivial ?_ rfl
  simp only [Tryd.ntmps11, List.size_toArray, List.length_cons, List.length_nil, Nat.reduceAdd, Nat.reduceSub, Array.replicate_succ, Array.replicate_zero, List.push_toArray, List.append_toArray, List.nil_append, List.cons_append]
  gi_wp2
  refine bodyPost_ret (v := unlV (⟨#[]⟩, 0, 8)) (by simp [results, Tryd.results11, unlV, go_sem]) rfl ?_
  exact ⟨rfl, Below.refl _ _⟩

set_option maxRecDepth 100000 in
set_option maxHeartbeats 4000000 in
theorem runl_form {w : World} (t : ByteArray) (h : 0 < t.size) (hq : t[0].toNat ≠ 34) (n : Nat) :
    Calls Tryd.prog 11 #[.string t] w fun e w' => e = .returned (unlV (unl t 0 n)) ∧ Below w.heap.size w w' := by
  have hU : unl t 0 n = (⟨#[]⟩, 0, 4) := by
    have hn : (rd0 false t 0).next 34 = false := by
      unfold Rd.next
      rw [show (rd0 false t 0).cur = some t[0] from cur_at (r := rd0 false t 0) h, beq_eq_false_iff_ne]
      intro k
      exact hq (by rw [Option.some.inj k]; rfl)
    have hx : (rd0 false t 0).expect 34 = (rd0 false t 0).bad := by
      unfold Rd.expect
      rw [if_neg (by exact fun k => k rfl), if_neg (by rw [hn]; simp)]
    unfold unl
    rw [hx]
    dsimp only
    rw [if_pos (Rd.bad_e _)]
    unfold Rd.bad
    rw [if_neg (by show ¬ t.size ≤ 0; omega)]
    rfl
  rw [hU]
  have he : t.toList.isEmpty = false := by
    rw [List.isEmpty_eq_false_iff]
    intro k
    rw [toList_nil_iff_emptyBytes] at k
    subst k
    exact absurd h (by decide)
  have hq1 : ((t[0].toNat : Int) != 34) = true := by rw [bne_iff_ne]; omega
  clear hq hU
  refine callsIn_wide.1 (?_ : CallsIn Fence.wide 2 _ _ _ _ _)
  refine callsIn_of_wp Tryd.func11 rfl trivial ?_ rfl
  simp only [Tryd.ntmps11, List.size_toArray, List.length_cons, List.length_nil, Nat.reduceAdd, Nat.reduceSub, Array.replicate_succ, Array.replicate_zero, List.push_toArray, List.append_toArray, List.nil_append, List.cons_append]
  gi_wp2
  refine bodyPost_ret (v := unlV (⟨#[]⟩, 0, 4)) (by simp [results, Tryd.results11, unlV, go_sem]) rfl ?_
  exact ⟨rfl, Below.refl _ _⟩

end Go.Proofs.YtjaklcmadkpmdaaDoor
end
