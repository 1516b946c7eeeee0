/- Two firsts alike; what a cell holds behind a call. -/
import Derived.Test.YtfjpbedcopdglaaGreatDoorFirB
namespace Go.Proofs.YtfjpbedcopdglaaGreatDoor
open Go.RowKit

set_option maxHeartbeats 1000000 in
@[go_sem] theorem eq4b (a b c d a' b' c' d' : Int) (w : World) : (Op.equalIn 9999 24 (.agg #[.int .u64 a, .int .u64 b, .int .u64 c, .int .u64 d]) (.agg #[.int .u64 a', .int .u64 b', .int .u64 c', .int .u64 d'])).run Tryz.prog w = .ok (sm a b c d a' b' c' d') w := by
  have u3 := Tryz.underlying22
  have a3 := Tryz.isAgg22
  have z3 := Tryz.sizeOf22
  rw [show (9999 : Nat) = 9998 + 1 from rfl, Op.equalIn]
  simp only [Sem.run_bind, run_underlying Tryz.underlying24, Result.andThen_ok]
  simp only [Std.Legacy.Range.forIn_eq_forIn_range', Std.Legacy.Range.size, Nat.sub_zero, Nat.add_sub_cancel, Nat.div_one, List.range'_succ, List.range'_zero, List.forIn_cons, List.forIn_nil]
  go_simp
  by_cases h1 : a = a' <;> by_cases h2 : b = b' <;> by_cases h3 : c = c' <;> by_cases h4 : d = d' <;> simp [sm, h1, h2, h3, h4]

theorem le_drew {M : Nat} {w : World} (h : M ≤ w.heap.size) : M ≤ w.drew.heap.size := h

theorem S_keep {M : Nat} {w w' : World} (hL : M ≤ w.heap.size) (hb : Below w.heap.size w w') {k o : Nat} {v : Value} (hk : k < M) (h : w.cell? ⟨k, o, none⟩ = some v) : w'.cell? ⟨k, o, none⟩ = some v :=
  (hb.cell (p := ⟨k, o, none⟩) (Nat.lt_of_lt_of_le hk hL)).trans h
end Go.Proofs.YtfjpbedcopdglaaGreatDoor
