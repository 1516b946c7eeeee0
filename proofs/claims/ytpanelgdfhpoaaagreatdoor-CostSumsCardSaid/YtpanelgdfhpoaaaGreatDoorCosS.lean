/- CostSums' walk: for every four whole numbers. -/
import Derived.Lib.Hide
import Derived.Test.YtpanelgdfhpoaaaGreatDoorCosW
namespace Go.Proofs.YtpanelgdfhpoaaaGreatDoor
open Go.RowKit Ieee

theorem add_run {a b c d : Int} (ha : -1000000 < a ∧ a < 1000000) (hb : -1000000 < b ∧ b < 1000000) (hc : -1000000 < c ∧ c < 1000000) (hd : -1000000 < d ∧ d < 1000000) (w : World) :
    (binOp .add 23 (.complex .f64 (F a) (F b)) (.complex .f64 (F c) (F d))).run Tryz.prog w = .ok (.complex .f64 (F (a + c)) (F (b + d))) w := by
  have h1 := F_add (a := a) (c := c) (by omega) (by omega)
  have h2 := F_add (a := b) (c := d) (by omega) (by omega)
  exact run_complex_sum w .add (.inl rfl) 23 .f64 (F a) (F b) (F c) (F d) (F (a + c)) (F (b + d)) (by
    unfold cSumBits floatBits
    simp only [h1, h2]
    rfl)

theorem tmod_small (a : Int) : -1000000 < a.tmod 1000000 ∧ a.tmod 1000000 < 1000000 := by
  have h1 := Int.tmod_lt_of_pos a (b := 1000000) (by decide)
  have h2 : -1000000 < a.tmod 1000000 := by
    rcases Int.le_total 0 a with h | h
    · have := Int.tmod_nonneg 1000000 h; omega
    · have := Int.tmod_lt_of_pos (-a) (b := 1000000) (by decide)
      rw [Int.neg_tmod] at this
      omega
  exact ⟨h2, h1⟩

set_option maxRecDepth 100000 in
set_option maxHeartbeats 2000000 in
theorem sums_walk (a b c d : Int) (w : World) (haw : Calls Tryz.prog 4 #[] w fun e w' => e = .returned (.bool true) ∧ Below w.heap.size w w') :
    Calls Tryz.prog 3 #[.int .i64 a, .int .i64 b, .int .i64 c, .int .i64 d] w fun e w' => e = .returned (.bool true) ∧ Below w.heap.size w w' := by
  have ma := tmod_small a
  have mb := tmod_small b
  have mc := tmod_small c
  have md := tmod_small d
  obtain ⟨A, hA⟩ : ∃ A, a.tmod 1000000 = A := ⟨_, rfl⟩
  obtain ⟨B, hB⟩ : ∃ B, b.tmod 1000000 = B := ⟨_, rfl⟩
  obtain ⟨C, hC⟩ : ∃ C, c.tmod 1000000 = C := ⟨_, rfl⟩
  obtain ⟨D, hD⟩ : ∃ D, d.tmod 1000000 = D := ⟨_, rfl⟩
  rw [hA] at ma
  rw [hB] at mb
  rw [hC] at mc
  rw [hD] at md
  have pA : Part (F A) A := .whole (by omega) (by omega)
  have pB : Part (F B) B := .whole (by omega) (by omega)
  have pC : Part (F C) C := .whole (by omega) (by omega)
  have pD : Part (F D) D := .whole (by omega) (by omega)
  have pAC : Part (F (A + C)) (A + C) := .whole (by omega) (by omega)
  have pBD : Part (F (B + D)) (B + D) := .whole (by omega) (by omega)
  have hadd := add_run ma mb mc md
  have fA : floatOfInt FloatKind.f64 A = F A := rfl
  have fB : floatOfInt FloatKind.f64 B = F B := rfl
  have fC : floatOfInt FloatKind.f64 C = F C := rfl
  have fD : floatOfInt FloatKind.f64 D = F D := rfl
  go_enter Tryz.func3, Tryz.ntmps3
  go_wp2_with fail
  refine haw.mono ?_
  rintro e w1 ⟨rfl, hb1⟩
  have hw1 : wrap64 (A + B) = A + B := by unfold wrap64; omega
  have hw2 : wrap64 (A + B + (C + D)) = A + B + (C + D) := by unfold wrap64; omega
  have hq : ((A + C + (B + D) : Int) == A + B + (C + D)) = true := by rw [beq_iff_eq]; omega
  have hq1 : ((0 + B : Int) == B) = true := by rw [beq_iff_eq]; omega
  have hq2 : ((A + 0 : Int) == A) = true := by rw [beq_iff_eq]; omega
  have hH := Lib.hid hb1
  clear haw hb1
  go_wp2_with (first
    | (go_at_call 5; (with_reducible refine (sum_any pA pB _).mono ?_); rintro e w' ⟨rfl, rfl⟩)
    | (go_at_call 5; (with_reducible refine (sum_any pC pD _).mono ?_); rintro e w' ⟨rfl, rfl⟩)
    | (go_at_call 5; (with_reducible refine (sum_any pAC pBD _).mono ?_); rintro e w' ⟨rfl, rfl⟩)
    | (go_at_call 5; (with_reducible refine (sum_any pN pB _).mono ?_); rintro e w' ⟨rfl, rfl⟩)
    | (go_at_call 5; (with_reducible refine (sum_any pA pN _).mono ?_); rintro e w' ⟨rfl, rfl⟩)
    | (go_at_call 6; (with_reducible refine (nan_any _).mono ?_); rintro e w' ⟨x, ⟨rfl, ho⟩, rfl⟩; have pN := Part.none ho))
  go_ret
  exact ⟨rfl, hH.out.drew.drew⟩
end Go.Proofs.YtpanelgdfhpoaaaGreatDoor
