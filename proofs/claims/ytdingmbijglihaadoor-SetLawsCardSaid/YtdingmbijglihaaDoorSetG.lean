/- The walk of the statement on the laws of sets, at a text of more than 5000 bytes: it answers yes, and nothing that was there has changed. -/
import Derived.Test.YtdingmbijglihaaDoorSetB
namespace Go.Proofs.YtdingmbijglihaaDoor
open Go.RowKit Go.Shelf

set_option maxRecDepth 100000 in
set_option maxHeartbeats 4000000 in
theorem laws_long (x y : S4) (b : Nat) (s : ByteArray) (hs : 5000 < s.size) (w : World) (hT : Tab w) :
    Calls Tryd.prog 6 #[x.v, y.v, .int .u8 b, .string s] w fun e w' => e = .returned (.bool true) ∧ Below w.heap.size w w' := by
  have hlong : (5000 : Int) < (s.size : Int) := by omega
  go_enter Tryd.func6, Tryd.ntmps6
  go_wp2_with fail
  have hB0 : Below w.heap.size w ((w.alloc (.cells #[.int .u64 x.a, .int .u64 x.b, .int .u64 x.c, .int .u64 x.d] 26)).alloc (.cells #[.int .u64 y.a, .int .u64 y.b, .int .u64 y.c, .int .u64 y.d] 26)) := ((Below.refl _ w).alloc (Nat.le_refl _) _).alloc (by simp) _
  have hS0 := St.start (hT.step hB0) hB0
  have hbx := (Box4.new w x).alloc (.cells #[.int .u64 y.a, .int .u64 y.b, .int .u64 y.c, .int .u64 y.d] 26)
  have hby := Box4.new (w.alloc (.cells #[.int .u64 x.a, .int .u64 x.b, .int .u64 x.c, .int .u64 x.d] 26)) y
  simp only [World.size_alloc] at hby
  obtain ⟨W0, hW0⟩ : ∃ W, W = ((w.alloc (.cells #[.int .u64 x.a, .int .u64 x.b, .int .u64 x.c, .int .u64 x.d] 26)).alloc (.cells #[.int .u64 y.a, .int .u64 y.b, .int .u64 y.c, .int .u64 y.d] 26)) := ⟨_, rfl⟩
  rw [← hW0] at hbx hby hS0 ⊢
  clear hW0 hB0
  have hL := hby.lt
  obtain ⟨N, hN⟩ : ∃ N, W0.heap.size = N := ⟨_, rfl⟩
  rw [hN] at hS0 hL
  clear hN
  have hLx : w.heap.size < N := by omega
  have hS := hS0
  clear hS0
  refine (awake_any _ hS.tab).mono ?_
  rintro e w1 ⟨rfl, hb⟩; have hS := St.step (by first | exact hS | exact St.drew hS) hb; clear hb; have hcx := hS.cell
  go_wp2
  go_ret
  exact ⟨rfl, hS.below⟩

theorem str_twice (s : ByteArray) (hs : s.size ≤ 5000) (W : World) : (Op.stringOp BinOp.add s s).run Tryd.prog W = .ok (.string (s ++ s)) W := by
  have hm : IntKind.i64.max = 9223372036854775807 := by decide
  have h : ¬ (((s.size + s.size : Nat) : Int) > IntKind.i64.max) := by rw [hm]; omega
  unfold Op.stringOp
  simp only [h, if_false]
  rfl

end Go.Proofs.YtdingmbijglihaaDoor
