/- NameRow's walk. -/
import Derived.Test.YtfhffejbomhfnaaDoorNamR
namespace Go.Proofs.YtfhffejbomhfnaaDoor
open Go.RowKit Go.Shelf

set_option maxRecDepth 100000 in
set_option maxHeartbeats 2000000 in
theorem row_walk (a b c : ByteArray) (w : World) (hI : Inv w) :
    Calls Tryd.prog 7 #[.string a, .string b, .string c] w fun e w' => e = .returned (.bool true) ∧ Below w.heap.size w w' := by
  have r1 : -1 ≤ cmpB a b := (cb_range _ _).1
  have r2 : cmpB a b ≤ 1 := (cb_range _ _).2
  have hneg : (cmpB b a == -cmpB a b) = true := by
    have := cb_turn a.data.toList b.data.toList
    simp only [beq_iff_eq]; exact this
  have hz : ((cmpB a b == 0) == (a.toList == b.toList)) = true := by
    rw [ByteArray.toList_eq, ByteArray.toList_eq, beq_iff_eq, Bool.eq_iff_iff, beq_iff_eq, beq_iff_eq]
    exact cb_zero _ _
  have ht : cmpB a b ≤ 0 → cmpB b c ≤ 0 → cmpB a c ≤ 0 := (cb_trans a.data.toList b.data.toList c.data.toList).1
  have hcases : (3000 < a.size) ∨ (a.size ≤ 3000 ∧ 3000 < b.size) ∨ (a.size ≤ 3000 ∧ b.size ≤ 3000 ∧ 3000 < c.size) ∨ (a.size ≤ 3000 ∧ b.size ≤ 3000 ∧ c.size ≤ 3000 ∧ ((0 < cmpB a b) ∨ (cmpB a b ≤ 0 ∧ 0 < cmpB b c) ∨ (cmpB a b ≤ 0 ∧ cmpB b c ≤ 0 ∧ cmpB a c ≤ 0))) := by omega
  clear ht
  have hB : Below w.heap.size w w := Below.refl _ _
  go_enter Tryd.func7, Tryd.ntmps7
  go_wp2_with fail
  refine (works_any hI hB).mono ?_
  rintro e w1 ⟨rfl, hb1⟩
  have hB1 := bstep hB hb1
  clear hb1 hB
  rcases hcases with h | ⟨h1, h⟩ | ⟨h1, h2, h⟩ | ⟨h1, h2, h3, h⟩
  · go_wp2_with fail
    refine (works_any hI hB1).mono ?_
    rintro e w2 ⟨rfl, hb2⟩
    have hB2 := bstep hB1 hb2
    go_wp2
    go_ret
    exact ⟨rfl, hB2⟩
  · go_wp2_with fail
    refine (works_any hI hB1).mono ?_
    rintro e w2 ⟨rfl, hb2⟩
    have hB2 := bstep hB1 hb2
    go_wp2
    go_ret
    exact ⟨rfl, hB2⟩
  · go_wp2_with fail
    refine (works_any hI hB1).mono ?_
    rintro e w2 ⟨rfl, hb2⟩
    have hB2 := bstep hB1 hb2
    go_wp2
    go_ret
    exact ⟨rfl, hB2⟩
  · rcases h with h | ⟨h, h4⟩ | ⟨h, h4, h5⟩
    all_goals
      go_wp2_with (go_at_call 20; refine (compare_any _ _ _).mono ?_; rintro e w' ⟨rfl, rfl⟩)
      go_ret
      exact ⟨rfl, hB1⟩
end Go.Proofs.YtfhffejbomhfnaaDoor
