/- The reader's map: what stands behind a backslash. -/
import Derived.Test.YtjaklcmadkpmdaaDoorQuoK
section
namespace Go.Proofs.YtjaklcmadkpmdaaDoor
open Go Go.RowKit Go.Shelf
set_option linter.unusedSimpArgs false

/-- What stands behind a backslash, and is meant. -/
def behL (cls : Bool) : List (Nat × Nat) := [(110, 10), (114, 13), (116, 9)] ++ (bareL cls).map fun x => (x, x)
def entL : List (Nat × Nat) → Nat → List MapEntry
  | [], _ => []
  | p :: r, i => ⟨.int .u8 p.1, .int .u8 p.2, i⟩ :: entL r (i + 1)
def findP : List (Nat × Nat) → Nat → Option Nat
  | [], _ => none
  | p :: r, c => if c = p.1 then some p.2 else findP r c
def MapAt (W : World) (m : Nat) (l : List (Nat × Nat)) : Prop := W.heap[m]? = some (.map (entL l 0).toArray l.length)

theorem find_ent (c : Nat) : ∀ (l : List (Nat × Nat)) (i j : Nat), ∃ q, Instr.findNow (.int .u8) (.int .u8 c) (entL l i) j = some ((findP l c).map fun v : Nat => (q, Value.int IntKind.u8 (v : Int)))
  | [], i, j => ⟨0, rfl⟩
  | p :: r, i, j => by
    unfold entL findP
    have e : Instr.findNow (.int .u8) (.int .u8 (c : Int)) (⟨.int .u8 (p.1 : Int), .int .u8 (p.2 : Int), i⟩ :: entL r (i + 1)) j = if c = p.1 then some (some (j, .int .u8 (p.2 : Int))) else Instr.findNow (.int .u8) (.int .u8 c) (entL r (i + 1)) (j + 1) := by
      by_cases h : c = p.1
      · rw [if_pos h]
        have h' : ((c : Int) == (p.1 : Int)) = true := by rw [beq_iff_eq]; omega
        simp [Instr.findNow, Instr.sameNow, h']
      · rw [if_neg h]
        have h' : ((c : Int) == (p.1 : Int)) = false := by rw [beq_eq_false_iff_ne]; omega
        simp [Instr.findNow, Instr.sameNow, h']
    rw [e]
    by_cases h : c = p.1
    · rw [if_pos h, if_pos h]
      exact ⟨j, rfl⟩
    · rw [if_neg h, if_neg h]
      exact find_ent c r (i + 1) (j + 1)

theorem look_map (W : World) (m : Nat) (l : List (Nat × Nat)) (h : MapAt W m l) (c : Nat) :
    (Instr.lookup 61 (.map (some m)) (.int .u8 c) true).run Tryd.prog W = .ok (.tuple #[.int .u8 ((findP l c).getD 0 : Nat), .bool (findP l c).isSome]) W := by
  have hg : (getObj m).run Tryd.prog W = .ok (.map (entL l 0).toArray l.length) W := by
    unfold MapAt at h
    simp only [getObj, Sem.run, h]
  obtain ⟨q, hf⟩ := find_ent c l 0 0
  have hfk : (Instr.findKey 5 (.int .u8 (c : Int)) (entL l 0).toArray.toList).run Tryd.prog W = .ok ((findP l c).map fun v : Nat => (q, Value.int IntKind.u8 (v : Int))) W := by
    unfold Instr.findKey
    simp only [Sem.run_bind, run_underlying Tryd.underlying5, Result.andThen_ok, hf, Sem.run_pure]
  have hck : (Instr.checkKey (entL l 0).toArray.isEmpty 10000 5 (.int .u8 (c : Int))).run Tryd.prog W = .ok () W := by
    unfold Instr.checkKey
    simp only [Sem.run_bind, run_underlying Tryd.underlying5, Result.andThen_ok]; rfl
  have hz : (zeroValue 5).run Tryd.prog W = .ok (.int .u8 0) W := Tryd.zeroValue5 W
  unfold Instr.lookup
  simp only [Sem.run_bind, run_underlying Tryd.underlying61, Result.andThen_ok, hg, Sem.run_pure, hck, hfk]
  cases findP l c with
  | none => simp [hz]
  | some v => simp
end Go.Proofs.YtjaklcmadkpmdaaDoor
end
section
namespace Go.Proofs.YtjaklcmadkpmdaaDoor
open Go Go.RowKit Go.Shelf

theorem cur_none {r : Rd} (h : r.cur = none) : r.text.size ≤ r.at' := by
  unfold Rd.cur at h
  exact Array.getElem?_eq_none_iff.1 h
theorem cur_some {r : Rd} {c : UInt8} (h : r.cur = some c) : ∃ hlt : r.at' < r.text.size, r.text[r.at'] = c := by
  unfold Rd.cur at h
  obtain ⟨h1, h2⟩ := Array.getElem?_eq_some_iff.1 h
  exact ⟨h1, h2⟩

/-- Behind one byte. -/
def Rd.up (r : Rd) : Rd := { r with at' := r.at' + 1 }
/-- Two digits. -/
def Rd.hex (r : Rd) : Int × Rd := (16 * r.digit.1 + r.digit.2.digit.1, r.digit.2.digit.2)
/-- One sign: its byte, and what is left. -/
def Rd.sign (cls : Bool) (r : Rd) : UInt8 × Rd :=
  match r.cur with
  | none => (0, r.bad)
  | some c =>
    if beginsB cls c = false then (0, r.bad)
    else if c.toNat ≠ 92 then (c, r.up)
    else if r.up.next 120 = true then (UInt8.ofNat r.up.up.hex.1.toNat, r.up.up.hex.2)
    else match r.up.cur with
      | none => (0, r.up.bad)
      | some d => match findP (behL cls) d.toNat with
        | some v => (UInt8.ofNat v, r.up.up)
        | none => (0, r.up.bad)
/-- What is the same of two readers but for the place and what is wrong. -/
def Rd.like (r s : Rd) : Prop := s.text = r.text ∧ s.bare = r.bare ∧ s.mp = r.mp
theorem Rd.like.refl (r : Rd) : r.like r := ⟨rfl, rfl, rfl⟩
theorem Rd.like.trans {r s t : Rd} (h : r.like s) (k : s.like t) : r.like t := ⟨k.1.trans h.1, k.2.1.trans h.2.1, k.2.2.trans h.2.2⟩
theorem Rd.bad_like (r : Rd) : r.like r.bad := ⟨rfl, rfl, rfl⟩
theorem Rd.up_like (r : Rd) : r.like r.up := ⟨rfl, rfl, rfl⟩
theorem Rd.bad_e (r : Rd) : r.bad.e ≠ 0 := by unfold Rd.bad; dsimp only; split <;> decide
theorem Rd.digit_like (r : Rd) : r.like r.digit.2 := by
  unfold Rd.digit
  split
  · exact Rd.like.refl r
  · split
    · split
      · exact ⟨rfl, rfl, rfl⟩
      · exact r.bad_like
    · exact r.bad_like
theorem Rd.hex_like (r : Rd) : r.like r.hex.2 := r.digit_like.trans r.digit.2.digit_like
theorem Rd.sign_like (cls : Bool) (r : Rd) : r.like (r.sign cls).2 := by
  unfold Rd.sign
  split
  · exact r.bad_like
  · split
    · exact r.bad_like
    · split
      · exact r.up_like
      · split
        · exact (r.up_like.trans r.up.up_like).trans r.up.up.hex_like
        · split
          · exact r.up_like.trans r.up.bad_like
          · split
            · exact r.up_like.trans r.up.up_like
            · exact r.up_like.trans r.up.bad_like
/-- A digit goes on, or tells what is wrong. -/
theorem Rd.digit_on (r : Rd) (h : r.at' ≤ r.text.size) : r.at' ≤ r.digit.2.at' ∧ r.digit.2.at' ≤ r.text.size := by
  unfold Rd.digit
  split
  · exact ⟨Nat.le_refl _, h⟩
  · split
    · rename_i c hc
      obtain ⟨hlt, _⟩ := cur_some hc
      split
      · exact ⟨Nat.le_succ _, hlt⟩
      · exact ⟨Nat.le_refl _, h⟩
    · exact ⟨Nat.le_refl _, h⟩
theorem Rd.sign_on (cls : Bool) (r : Rd) (h : r.at' ≤ r.text.size) : (r.sign cls).2.at' ≤ r.text.size ∧ ((r.sign cls).2.e = 0 → r.at' < (r.sign cls).2.at') := by
  unfold Rd.sign
  split
  · exact ⟨h, fun k => absurd k r.bad_e⟩
  · rename_i c hc
    obtain ⟨hlt, _⟩ := cur_some hc
    split
    · exact ⟨h, fun k => absurd k r.bad_e⟩
    · split
      · exact ⟨hlt, fun _ => Nat.lt_succ_self _⟩
      · split
        · rename_i hn
          have hl : r.up.at' < r.text.size := by
            unfold Rd.next at hn
            rw [beq_iff_eq] at hn
            obtain ⟨h1, _⟩ := cur_some hn
            exact h1
          have h2 := r.up.up.digit_on hl
          have h3 := r.up.up.digit.2.digit_on (by rw [r.up.up.digit_like.1]; exact h2.2)
          rw [r.up.up.digit_like.1] at h3
          refine ⟨h3.2, fun _ => ?_⟩
          have h4 : r.at' + 2 ≤ r.up.up.hex.2.at' := Nat.le_trans h2.1 h3.1
          show r.at' < r.up.up.hex.2.at'
          omega
        · split
          · exact ⟨hlt, fun k => absurd k r.up.bad_e⟩
          · rename_i d hd
            obtain ⟨hl, _⟩ := cur_some hd
            split
            · exact ⟨hl, fun _ => by show r.at' < r.at' + 1 + 1; omega⟩
            · exact ⟨hlt, fun k => absurd k r.up.bad_e⟩

/-- May a sign begin here? -/
def Rd.begins (cls : Bool) (r : Rd) : Bool := match r.cur with | some c => beginsB cls c | none => false
/-- The signs that stand here. -/
def Rd.signs (cls : Bool) : Nat → Rd → List UInt8 × Rd
  | 0, r => ([], r)
  | n + 1, r => if r.e = 0 ∧ r.begins cls = true then
      (if (r.sign cls).2.e ≠ 0 then ([], (r.sign cls).2) else ((r.sign cls).1 :: ((r.sign cls).2.signs cls n).1, ((r.sign cls).2.signs cls n).2))
    else ([], r)
/-- The signs up to a byte, and behind it. -/
def Rd.lit (cls : Bool) (q : UInt8) : Nat → Rd → List UInt8 × Rd
  | 0, r => ([], r)
  | n + 1, r => match r.cur with
    | none => ([], r.bad)
    | some c => if c = q then ([], r.up) else
      if (r.sign cls).2.e ≠ 0 then ([], (r.sign cls).2) else ((r.sign cls).1 :: ((r.sign cls).2.lit cls q n).1, ((r.sign cls).2.lit cls q n).2)

theorem Rd.lit_signs (cls : Bool) (q : UInt8) (hq : beginsB cls q = false) : ∀ (n : Nat) (r : Rd), r.e = 0 → r.at' ≤ r.text.size → r.text.size < n + r.at' →
    (r.lit cls q n).1 = (r.signs cls n).1 ∧ (r.lit cls q n).2 = (r.signs cls n).2.expect q
  | 0, r, _, h, hn => by omega
  | n + 1, r, he, h, hn => by
    unfold Rd.lit Rd.signs
    cases hc : r.cur with
    | none =>
      have hb : r.begins cls = false := by unfold Rd.begins; rw [hc]
      have hx : r.next q = false := by unfold Rd.next; rw [hc]; rfl
      simp only [hb, Bool.false_eq_true, and_false, if_false]
      refine ⟨trivial, ?_⟩
      unfold Rd.expect
      rw [if_neg (by omega), hx]
      rfl
    | some c =>
      have hb : r.begins cls = beginsB cls c := by unfold Rd.begins; rw [hc]
      dsimp only
      by_cases hcq : c = q
      · subst hcq
        have hx : r.next c = true := by unfold Rd.next; rw [hc]; exact beq_self_eq_true _
        simp only [hb, hq, Bool.false_eq_true, and_false, if_false, if_pos]
        refine ⟨trivial, ?_⟩
        unfold Rd.expect
        rw [if_neg (by omega), if_pos hx]
        rfl
      · rw [if_neg hcq]
        have hx : r.next q = false := by
          unfold Rd.next; rw [hc, beq_eq_false_iff_ne]; intro k; exact hcq (Option.some.inj k)
        cases hbc : beginsB cls c
        · have hs : r.sign cls = (0, r.bad) := by unfold Rd.sign; rw [hc]; dsimp only; rw [if_pos hbc]
          rw [hb, hbc, hs, if_pos r.bad_e, if_neg (by simp)]
          refine ⟨rfl, ?_⟩
          show r.bad = r.expect q
          unfold Rd.expect
          rw [if_neg (by omega), hx]
          rfl
        · rw [hb, hbc]
          by_cases hse : (r.sign cls).2.e = 0
          · have ho := r.sign_on cls h
            have hl := (r.sign_like cls).1
            have ih := Rd.lit_signs cls q hq n (r.sign cls).2 hse (by rw [hl]; exact ho.1) (by rw [hl]; have := ho.2 hse; omega)
            have hse' : ¬ (r.sign cls).2.e ≠ 0 := fun k => k hse
            rw [if_neg hse', if_pos ⟨he, rfl⟩, if_neg hse']
            exact ⟨congrArg (List.cons _) ih.1, ih.2⟩
          · rw [if_pos hse, if_pos ⟨he, rfl⟩, if_pos hse]
            refine ⟨rfl, ?_⟩
            unfold Rd.expect
            rw [if_pos hse]
end Go.Proofs.YtjaklcmadkpmdaaDoor
end
