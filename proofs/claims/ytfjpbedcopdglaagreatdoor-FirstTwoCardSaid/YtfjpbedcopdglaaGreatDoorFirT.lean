/- The document's own Seq of what is not free, and Within. -/
import Derived.Deep.RegionHeld3
import Derived.KernelRfl
import Derived.Test.YtfjpbedcopdglaaGreatDoorFirU
namespace Go.Proofs.YtfjpbedcopdglaaGreatDoor
open Go.RowKit
set_option linter.unusedSimpArgs false

set_option maxHeartbeats 4000000 in
theorem rseq0 (s t : S4) (g : Bool) (w : World) :
    Calls Tryz.prog 6 #[fv s false, fv t g] w fun e w' => e = .returned (fv s false) ∧ Below w.heap.size w w' := by
  have h := Box5r.new ((w.alloc (.cells #[.int .u64 s.a, .int .u64 s.b, .int .u64 s.c, .int .u64 s.d, .bool false] 27)).alloc (.cells #[.int .u64 t.a, .int .u64 t.b, .int .u64 t.c, .int .u64 t.d, .bool g] 27)) s false
  simp only [World.size_alloc] at h
  have B2 := Lib.hid h
  clear h
  have HB := Lib.hid (show Below w.heap.size w (((w.alloc (.cells #[.int .u64 s.a, .int .u64 s.b, .int .u64 s.c, .int .u64 s.d, .bool false] 27)).alloc (.cells #[.int .u64 t.a, .int .u64 t.b, .int .u64 t.c, .int .u64 t.d, .bool g] 27)).alloc (.cells #[.int .u64 s.a, .int .u64 s.b, .int .u64 s.c, .int .u64 s.d, .bool false] 27)) from (((Below.refl _ w).alloc (Nat.le_refl _) _).alloc (by simp) _).alloc (by simp; omega) _)
  go_enter Tryz.func6, Tryz.ntmps6
  go_wp2_with fail
  exact Box5r.result rfl (by simp [go_sem]) rfl B2.out ⟨rfl, HB.out⟩

set_option maxHeartbeats 4000000 in
theorem rwithin_any (s t : S4) (hs : s.ok) (ht : t.ok) (f g : Bool) (w : World) :
    Calls Tryz.prog 10 #[fv s f, fv t g] w fun e w' => e = .returned (.bool (same4 (s.and t) s && (g || !f))) ∧ Below w.heap.size w w' := by
  obtain ⟨W0, hW0⟩ : ∃ W0, W0 = ((w.alloc (.cells #[.int .u64 s.a, .int .u64 s.b, .int .u64 s.c, .int .u64 s.d, .bool f] 27)).alloc (.cells #[.int .u64 t.a, .int .u64 t.b, .int .u64 t.c, .int .u64 t.d, .bool g] 27)) := ⟨_, rfl⟩
  have B0 := Lib.hid (show Box5r W0 w.heap.size s f by rw [hW0]; exact (Box5r.new w s f).alloc _)
  have B1 := Lib.hid (show Box5r W0 (w.heap.size + 1) t g by rw [hW0]; have h := Box5r.new (w.alloc (.cells #[.int .u64 s.a, .int .u64 s.b, .int .u64 s.c, .int .u64 s.d, .bool f] 27)) t g; simp only [World.size_alloc] at h; exact h)
  have HB := Lib.hid (show Below w.heap.size w W0 by rw [hW0]; exact ((Below.refl _ w).alloc (Nat.le_refl _) _).alloc (by simp) _)
  have hL0 : w.heap.size + 2 ≤ W0.heap.size := by rw [hW0]; simp
  obtain ⟨b, hbb⟩ : ∃ b, b = same4 (s.and t) s := ⟨_, rfl⟩
  have hsub : ∀ w, Calls Tryz.prog 15 #[s.v, t.v] w fun e w' => e = .returned (.bool b) ∧ Below w.heap.size w w' := fun w => by rw [hbb]; exact rsub_any s t hs ht w
  rw [← hbb]
  clear hbb hs ht
  have SUB := Lib.hid hsub
  clear hsub
  obtain ⟨R, hR⟩ : ∃ R, R = (b && (g || !f)) := ⟨_, rfl⟩
  rw [← hR]
  have HR := Lib.hid hR
  clear hR
  have HW := Lib.hid hW0
  clear hW0
  cases b <;> cases f <;> cases g
  all_goals
    go_enter Tryz.func10, Tryz.ntmps10
    go_wp2_with (go_at_call 15; rw [← HW.out]; refine (SUB.out _).mono ?_; rintro e w1 ⟨rfl, hb'⟩; obtain ⟨z0, z1, z2, z3, z4⟩ := (B1.out.below hb' (by omega)).cells; obtain ⟨v0, v1, v2, v3, v4⟩ := (B0.out.below hb' (by omega)).cells; have HB1 := Lib.hid (bstep HB.out hb'))
    rw [HR.out]
    go_ret
    exact ⟨rfl, HB1.out⟩
end Go.Proofs.YtfjpbedcopdglaaGreatDoor
