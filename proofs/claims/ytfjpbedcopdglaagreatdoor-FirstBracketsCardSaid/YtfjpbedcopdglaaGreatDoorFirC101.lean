/- The walk of the statement: one case. -/
import Derived.Deep.RegionHeld3
import Derived.KernelRfl
import Derived.Test.YtfjpbedcopdglaaGreatDoorFirE
namespace Go.Proofs.YtfjpbedcopdglaaGreatDoor
open Go.RowKit
set_option linter.unusedSimpArgs false
set_option linter.unusedVariables false

set_option maxRecDepth 100000 in
set_option maxHeartbeats 8000000 in
theorem walk101 (s u r1 r2 r3 r4 c1 c2 c3 : S4) (f h b1 b2 b3 b4 d1 d2 d3 : Bool) (W : World)
    (haw : ∀ w, Below W.heap.size W w → Calls Tryz.prog 11 #[] w fun e w' => e = .returned (.bool true) ∧ Below w.heap.size w w')
    (H1 : Hid (∀ w, Calls Tryz.prog 5 #[fv s f, fv s f] w fun e w' => e = .returned (fv r1 b1) ∧ Below w.heap.size w w'))
    (H2 : Hid (∀ w, Calls Tryz.prog 5 #[fv r1 b1, fv u h] w fun e w' => e = .returned (fv r2 b2) ∧ Below w.heap.size w w'))
    (H3 : Hid (∀ w, Calls Tryz.prog 5 #[fv s f, fv u h] w fun e w' => e = .returned (fv r3 b3) ∧ Below w.heap.size w w'))
    (H4 : Hid (∀ w, Calls Tryz.prog 5 #[fv s f, fv r3 b3] w fun e w' => e = .returned (fv r2 b2) ∧ Below w.heap.size w w'))
    (H5 : Hid (∀ w, Calls Tryz.prog 7 #[fv s f, fv s f] w fun e w' => e = .returned (fv c1 d1) ∧ Below w.heap.size w w'))
    (H6 : Hid (∀ w, Calls Tryz.prog 7 #[fv c1 d1, fv u h] w fun e w' => e = .returned (fv c2 d2) ∧ Below w.heap.size w w'))
    (H7 : Hid (∀ w, Calls Tryz.prog 7 #[fv s f, fv u h] w fun e w' => e = .returned (fv c3 d3) ∧ Below w.heap.size w w'))
    (H8 : Hid (∀ w, Calls Tryz.prog 7 #[fv s f, fv c3 d3] w fun e w' => e = .returned (fv c2 d2) ∧ Below w.heap.size w w'))
    (H9 : Hid (∀ w, Calls Tryz.prog 7 #[fv s f, fv s f] w fun e w' => e = .returned (fv c1 d1) ∧ Below w.heap.size w w'))
    (H10 : Hid (∀ w, Calls Tryz.prog 5 #[.agg #[.int .u64 0, .int .u64 0, .int .u64 0, .int .u64 0, .bool true], fv s f] w fun e w' => e = .returned (fv s f) ∧ Below w.heap.size w w'))
    (H11 : Hid (∀ w, Calls Tryz.prog 5 #[fv s f, .agg #[.int .u64 0, .int .u64 0, .int .u64 0, .int .u64 0, .bool true]] w fun e w' => e = .returned (fv s f) ∧ Below w.heap.size w w'))
    (H12 : Hid (∀ w, Calls Tryz.prog 9 #[fv s f, fv s f] w fun e w' => e = .returned (.bool true) ∧ Below w.heap.size w w'))
    (H13 : Hid (∀ w, Calls Tryz.prog 9 #[fv s f, fv u h] w fun e w' => e = .returned (.bool false) ∧ Below w.heap.size w w'))
    (H14 : Hid (∀ w, Calls Tryz.prog 9 #[fv s f, fv s f] w fun e w' => e = .returned (.bool true) ∧ Below w.heap.size w w'))
    (H16 : Hid (∀ w, Calls Tryz.prog 9 #[fv s f, fv s f] w fun e w' => e = .returned (.bool true) ∧ Below w.heap.size w w'))
    (H17 : Hid (∀ w, Calls Tryz.prog 9 #[fv s f, fv c1 d1] w fun e w' => e = .returned (.bool true) ∧ Below w.heap.size w w'))
    (H18 : Hid (∀ w, Calls Tryz.prog 5 #[fv s f, fv u h] w fun e w' => e = .returned (fv r4 b4) ∧ Below w.heap.size w w'))
    (H19 : Hid (∀ w, Calls Tryz.prog 9 #[fv r4 b4, fv r3 b3] w fun e w' => e = .returned (.bool true) ∧ Below w.heap.size w w')) :
    Calls Tryz.prog 4 #[fv s f, fv s f, fv u h] W fun e w' => e = .returned (.bool true) ∧ Below W.heap.size W w' := by
  obtain ⟨W0, hW0⟩ : ∃ W0, W0 = (((W.alloc (.cells #[.int .u64 s.a, .int .u64 s.b, .int .u64 s.c, .int .u64 s.d, .bool f] 26)).alloc (.cells #[.int .u64 s.a, .int .u64 s.b, .int .u64 s.c, .int .u64 s.d, .bool f] 26)).alloc (.cells #[.int .u64 u.a, .int .u64 u.b, .int .u64 u.c, .int .u64 u.d, .bool h] 26)) := ⟨_, rfl⟩
  have B0 := Lib.hid (show Box5 W0 W.heap.size s f by rw [hW0]; exact ((Box5.new W s f).alloc _).alloc _)
  have B1 := Lib.hid (show Box5 W0 (W.heap.size + 1) s f by rw [hW0]; have h := (Box5.new (W.alloc (.cells #[.int .u64 s.a, .int .u64 s.b, .int .u64 s.c, .int .u64 s.d, .bool f] 26)) s f).alloc (.cells #[.int .u64 u.a, .int .u64 u.b, .int .u64 u.c, .int .u64 u.d, .bool h] 26); simp only [World.size_alloc] at h; exact h)
  have B2 := Lib.hid (show Box5 W0 (W.heap.size + 1 + 1) u h by rw [hW0]; have h := Box5.new ((W.alloc (.cells #[.int .u64 s.a, .int .u64 s.b, .int .u64 s.c, .int .u64 s.d, .bool f] 26)).alloc (.cells #[.int .u64 s.a, .int .u64 s.b, .int .u64 s.c, .int .u64 s.d, .bool f] 26)) u h; simp only [World.size_alloc] at h; exact h)
  have HB0 := Lib.hid (show Below W.heap.size W W0 by rw [hW0]; exact (((Below.refl _ W).alloc (Nat.le_refl _) _).alloc (by simp) _).alloc (by simp; omega) _)
  have hLW := Lib.hid (show W.heap.size + 3 ≤ W0.heap.size by rw [hW0]; simp)
  have HAW := Lib.hid haw
  clear haw
  go_enter Tryz.func4, Tryz.ntmps4
  go_wp2_with fail
  rw [← hW0]
  clear hW0
  refine (HAW.out _ HB0.out).mono ?_
  rintro e w1 ⟨rfl, hb1⟩
  obtain ⟨m, hm⟩ : ∃ m, m = w1.heap.size := ⟨_, rfl⟩
  obtain ⟨W2, hW2⟩ : ∃ W2, W2 = w1.alloc (.cells #[.int .u64 0, .int .u64 0, .int .u64 0, .int .u64 0, .bool true] 26) := ⟨_, rfl⟩
  have hsz1 := hb1.size
  have hsz2 : W2.heap.size = m + 1 := by rw [hW2, hm]; simp
  have hBW : Below W0.heap.size W0 W2 := by rw [hW2]; exact hb1.alloc hsz1 _
  have B3 : Box5 W2 m S4.nil true := by rw [hW2, hm]; exact Box5.new w1 S4.nil true
  have HB := Lib.hid (show Below W.heap.size W W2.drew from bstep HB0.out (show Below W0.heap.size W0 W2.drew from ⟨hBW.os, hBW.tape, hBW.output, hBW.size, hBW.block⟩))
  have K0 := Lib.hid (show W.heap.size < m + 1 by have := hLW.out; omega)
  have K1 := Lib.hid (show W.heap.size + 1 < m + 1 by have := hLW.out; omega)
  have K2 := Lib.hid (show W.heap.size + 1 + 1 < m + 1 by have := hLW.out; omega)
  have K3 := Lib.hid (Nat.lt_succ_self m)
  have hL0 := Lib.hid (show m + 1 ≤ W2.drew.heap.size from Nat.le_of_eq hsz2.symm)
  obtain ⟨h0, h1, h2, h3, h4⟩ := (B0.out.below hBW (by have := hLW.out; omega)).cells
  obtain ⟨h5, h6, h7, h8, h9⟩ := (B1.out.below hBW (by have := hLW.out; omega)).cells
  obtain ⟨h10, h11, h12, h13, h14⟩ := (B2.out.below hBW (by have := hLW.out; omega)).cells
  obtain ⟨h15, h16, h17, h18, h19⟩ := B3.cells
  have HS2 := Lib.hid (show (fun w' => w'.cell? ⟨W.heap.size, 0, none⟩ = some (.int .u64 s.a) ∧ w'.cell? ⟨W.heap.size, 1, none⟩ = some (.int .u64 s.b) ∧ w'.cell? ⟨W.heap.size, 2, none⟩ = some (.int .u64 s.c) ∧ w'.cell? ⟨W.heap.size, 3, none⟩ = some (.int .u64 s.d) ∧ w'.cell? ⟨W.heap.size, 4, none⟩ = some (.bool f) ∧ w'.cell? ⟨W.heap.size + 1, 0, none⟩ = some (.int .u64 s.a) ∧ w'.cell? ⟨W.heap.size + 1, 1, none⟩ = some (.int .u64 s.b) ∧ w'.cell? ⟨W.heap.size + 1, 2, none⟩ = some (.int .u64 s.c) ∧ w'.cell? ⟨W.heap.size + 1, 3, none⟩ = some (.int .u64 s.d) ∧ w'.cell? ⟨W.heap.size + 1, 4, none⟩ = some (.bool f) ∧ w'.cell? ⟨W.heap.size + 1 + 1, 0, none⟩ = some (.int .u64 u.a) ∧ w'.cell? ⟨W.heap.size + 1 + 1, 1, none⟩ = some (.int .u64 u.b) ∧ w'.cell? ⟨W.heap.size + 1 + 1, 2, none⟩ = some (.int .u64 u.c) ∧ w'.cell? ⟨W.heap.size + 1 + 1, 3, none⟩ = some (.int .u64 u.d) ∧ w'.cell? ⟨W.heap.size + 1 + 1, 4, none⟩ = some (.bool h) ∧ w'.cell? ⟨m, 0, none⟩ = some (.int .u64 0) ∧ w'.cell? ⟨m, 1, none⟩ = some (.int .u64 0) ∧ w'.cell? ⟨m, 2, none⟩ = some (.int .u64 0) ∧ w'.cell? ⟨m, 3, none⟩ = some (.int .u64 0) ∧ w'.cell? ⟨m, 4, none⟩ = some (.bool true)) W2.drew from ⟨h0, h1, h2, h3, h4, h5, h6, h7, h8, h9, h10, h11, h12, h13, h14, h15, h16, h17, h18, h19⟩)
  have HM := Lib.hid hm
  have HW := Lib.hid hW2
  clear h0 h1 h2 h3 h4 h5 h6 h7 h8 h9 h10 h11 h12 h13 h14 h15 h16 h17 h18 h19 hsz1 hsz2 hBW B3 hb1 hm hW2
  go_wp2_with fail
  rw [← HM.out, ← HW.out]
  have HS := HS2.out
  clear HS2 HM HW
  refine wp_region_held_drew (S := (fun w' => w'.cell? ⟨W.heap.size, 0, none⟩ = some (.int .u64 s.a) ∧ w'.cell? ⟨W.heap.size, 1, none⟩ = some (.int .u64 s.b) ∧ w'.cell? ⟨W.heap.size, 2, none⟩ = some (.int .u64 s.c) ∧ w'.cell? ⟨W.heap.size, 3, none⟩ = some (.int .u64 s.d) ∧ w'.cell? ⟨W.heap.size, 4, none⟩ = some (.bool f) ∧ w'.cell? ⟨W.heap.size + 1, 0, none⟩ = some (.int .u64 s.a) ∧ w'.cell? ⟨W.heap.size + 1, 1, none⟩ = some (.int .u64 s.b) ∧ w'.cell? ⟨W.heap.size + 1, 2, none⟩ = some (.int .u64 s.c) ∧ w'.cell? ⟨W.heap.size + 1, 3, none⟩ = some (.int .u64 s.d) ∧ w'.cell? ⟨W.heap.size + 1, 4, none⟩ = some (.bool f) ∧ w'.cell? ⟨W.heap.size + 1 + 1, 0, none⟩ = some (.int .u64 u.a) ∧ w'.cell? ⟨W.heap.size + 1 + 1, 1, none⟩ = some (.int .u64 u.b) ∧ w'.cell? ⟨W.heap.size + 1 + 1, 2, none⟩ = some (.int .u64 u.c) ∧ w'.cell? ⟨W.heap.size + 1 + 1, 3, none⟩ = some (.int .u64 u.d) ∧ w'.cell? ⟨W.heap.size + 1 + 1, 4, none⟩ = some (.bool h) ∧ w'.cell? ⟨m, 0, none⟩ = some (.int .u64 0) ∧ w'.cell? ⟨m, 1, none⟩ = some (.int .u64 0) ∧ w'.cell? ⟨m, 2, none⟩ = some (.int .u64 0) ∧ w'.cell? ⟨m, 3, none⟩ = some (.int .u64 0) ∧ w'.cell? ⟨m, 4, none⟩ = some (.bool true))) (by kernel_rfl) HS (fun hHeld => ?_)
  clear HS
  refine wpAnyH_take (i := 0) (v := ?_) rfl (by kernel_rfl) (by kernel_rfl) (by kernel_rfl) (fun _ _ _ h => h) (Or.inl ⟨by kernel_rfl, ?_⟩) (by assumption) ?_
  rotate_left
  · (intro w hSw; (try dsimp only at hSw); go_simp; (try with_reducible rfl))
  try simp only [Act.put, List.getElem_toArray, List.getElem_cons_zero, List.getElem_cons_succ, List.setIfInBounds_toArray, List.set_cons_zero, List.set_cons_succ]
  refine wpAnyH_take (i := 1) (v := ?_) rfl (by kernel_rfl) (by kernel_rfl) (by kernel_rfl) (fun _ _ _ h => h) (Or.inl ⟨by kernel_rfl, ?_⟩) (by assumption) ?_
  rotate_left
  · (intro w hSw; (try dsimp only at hSw); go_simp; (try with_reducible rfl))
  try simp only [Act.put, List.getElem_toArray, List.getElem_cons_zero, List.getElem_cons_succ, List.setIfInBounds_toArray, List.set_cons_zero, List.set_cons_succ]
  refine wpAnyH_take (i := 3) (v := ?_) rfl (by kernel_rfl) (by kernel_rfl) (by kernel_rfl) (fun _ _ _ h => h) (Or.inl ⟨by kernel_rfl, ?_⟩) (by assumption) ?_
  rotate_left
  · (intro w hSw; (try dsimp only at hSw); go_simp; (try with_reducible rfl))
  try simp only [Act.put, List.getElem_toArray, List.getElem_cons_zero, List.getElem_cons_succ, List.setIfInBounds_toArray, List.set_cons_zero, List.set_cons_succ]
  refine wpAnyH_take (i := 5) (v := ?_) rfl (by kernel_rfl) (by kernel_rfl) (by kernel_rfl) (fun _ _ _ h => h) (Or.inl ⟨by kernel_rfl, ?_⟩) (by assumption) ?_
  rotate_left
  · (intro w hSw; (try dsimp only at hSw); go_simp; (try with_reducible rfl))
  try simp only [Act.put, List.getElem_toArray, List.getElem_cons_zero, List.getElem_cons_succ, List.setIfInBounds_toArray, List.set_cons_zero, List.set_cons_succ]
  refine wpAnyH_take (i := 6) (v := ?_) rfl (by kernel_rfl) (by kernel_rfl) (by kernel_rfl) (fun _ _ _ h => h) (Or.inl ⟨by kernel_rfl, ?_⟩) (by assumption) ?_
  rotate_left
  · (intro w hSw; (try dsimp only at hSw); go_simp; (try with_reducible rfl))
  try simp only [Act.put, List.getElem_toArray, List.getElem_cons_zero, List.getElem_cons_succ, List.setIfInBounds_toArray, List.set_cons_zero, List.set_cons_succ]
  refine wpAnyH_take (i := 7) (v := ?_) rfl (by kernel_rfl) (by kernel_rfl) (by kernel_rfl) (fun _ _ _ h => h) (Or.inl ⟨by kernel_rfl, ?_⟩) (by assumption) ?_
  rotate_left
  · (intro w hSw; (try dsimp only at hSw); go_simp; (try with_reducible rfl))
  try simp only [Act.put, List.getElem_toArray, List.getElem_cons_zero, List.getElem_cons_succ, List.setIfInBounds_toArray, List.set_cons_zero, List.set_cons_succ]
  refine wpAnyH_ready (rs := [2]) (by kernel_rfl) (by simp) (AllReadyH.cons rfl (fun K hK => ?_) AllReadyH.nil)
  go_simp
  go_at_call 5
  refine (H1.out _).mono ?_
  rintro e w' ⟨rfl, hb⟩
  obtain ⟨h0, h1, h2, h3, h4, h5, h6, h7, h8, h9, h10, h11, h12, h13, h14, h15, h16, h17, h18, h19⟩ := hHeld
  have hL1 := Lib.hid (Nat.le_trans hL0.out hb.size)
  have HB1 := Lib.hid (bstep HB.out hb)
  refine hK.out _ _ ⟨S_keep hL0.out hb K0.out h0, S_keep hL0.out hb K0.out h1, S_keep hL0.out hb K0.out h2, S_keep hL0.out hb K0.out h3, S_keep hL0.out hb K0.out h4, S_keep hL0.out hb K1.out h5, S_keep hL0.out hb K1.out h6, S_keep hL0.out hb K1.out h7, S_keep hL0.out hb K1.out h8, S_keep hL0.out hb K1.out h9, S_keep hL0.out hb K2.out h10, S_keep hL0.out hb K2.out h11, S_keep hL0.out hb K2.out h12, S_keep hL0.out hb K2.out h13, S_keep hL0.out hb K2.out h14, S_keep hL0.out hb K3.out h15, S_keep hL0.out hb K3.out h16, S_keep hL0.out hb K3.out h17, S_keep hL0.out hb K3.out h18, S_keep hL0.out hb K3.out h19⟩ (fun hHeld => ?_)
  clear hK K h0 h1 h2 h3 h4 h5 h6 h7 h8 h9 h10 h11 h12 h13 h14 h15 h16 h17 h18 h19 hb hL0 HB
  have hL0 := Lib.hid hL1.out
  have HB := Lib.hid HB1.out
  clear hL1 HB1
  try simp only [Act.put, List.getElem_toArray, List.getElem_cons_zero, List.getElem_cons_succ, List.setIfInBounds_toArray, List.set_cons_zero, List.set_cons_succ]
  refine wpAnyH_ready (rs := [4]) (by kernel_rfl) (by simp) (AllReadyH.cons rfl (fun K hK => ?_) AllReadyH.nil)
  go_simp
  go_at_call 5
  refine (H2.out _).mono ?_
  rintro e w' ⟨rfl, hb⟩
  obtain ⟨h0, h1, h2, h3, h4, h5, h6, h7, h8, h9, h10, h11, h12, h13, h14, h15, h16, h17, h18, h19⟩ := hHeld
  have hL1 := Lib.hid (Nat.le_trans hL0.out hb.size)
  have HB1 := Lib.hid (bstep HB.out hb)
  refine hK.out _ _ ⟨S_keep hL0.out hb K0.out h0, S_keep hL0.out hb K0.out h1, S_keep hL0.out hb K0.out h2, S_keep hL0.out hb K0.out h3, S_keep hL0.out hb K0.out h4, S_keep hL0.out hb K1.out h5, S_keep hL0.out hb K1.out h6, S_keep hL0.out hb K1.out h7, S_keep hL0.out hb K1.out h8, S_keep hL0.out hb K1.out h9, S_keep hL0.out hb K2.out h10, S_keep hL0.out hb K2.out h11, S_keep hL0.out hb K2.out h12, S_keep hL0.out hb K2.out h13, S_keep hL0.out hb K2.out h14, S_keep hL0.out hb K3.out h15, S_keep hL0.out hb K3.out h16, S_keep hL0.out hb K3.out h17, S_keep hL0.out hb K3.out h18, S_keep hL0.out hb K3.out h19⟩ (fun hHeld => ?_)
  clear hK K h0 h1 h2 h3 h4 h5 h6 h7 h8 h9 h10 h11 h12 h13 h14 h15 h16 h17 h18 h19 hb hL0 HB
  have hL0 := Lib.hid hL1.out
  have HB := Lib.hid HB1.out
  clear hL1 HB1
  try simp only [Act.put, List.getElem_toArray, List.getElem_cons_zero, List.getElem_cons_succ, List.setIfInBounds_toArray, List.set_cons_zero, List.set_cons_succ]
  refine wpAnyH_ready (rs := [8]) (by kernel_rfl) (by simp) (AllReadyH.cons rfl (fun K hK => ?_) AllReadyH.nil)
  go_simp
  go_at_call 5
  refine (H3.out _).mono ?_
  rintro e w' ⟨rfl, hb⟩
  obtain ⟨h0, h1, h2, h3, h4, h5, h6, h7, h8, h9, h10, h11, h12, h13, h14, h15, h16, h17, h18, h19⟩ := hHeld
  have hL1 := Lib.hid (Nat.le_trans hL0.out hb.size)
  have HB1 := Lib.hid (bstep HB.out hb)
  refine hK.out _ _ ⟨S_keep hL0.out hb K0.out h0, S_keep hL0.out hb K0.out h1, S_keep hL0.out hb K0.out h2, S_keep hL0.out hb K0.out h3, S_keep hL0.out hb K0.out h4, S_keep hL0.out hb K1.out h5, S_keep hL0.out hb K1.out h6, S_keep hL0.out hb K1.out h7, S_keep hL0.out hb K1.out h8, S_keep hL0.out hb K1.out h9, S_keep hL0.out hb K2.out h10, S_keep hL0.out hb K2.out h11, S_keep hL0.out hb K2.out h12, S_keep hL0.out hb K2.out h13, S_keep hL0.out hb K2.out h14, S_keep hL0.out hb K3.out h15, S_keep hL0.out hb K3.out h16, S_keep hL0.out hb K3.out h17, S_keep hL0.out hb K3.out h18, S_keep hL0.out hb K3.out h19⟩ (fun hHeld => ?_)
  clear hK K h0 h1 h2 h3 h4 h5 h6 h7 h8 h9 h10 h11 h12 h13 h14 h15 h16 h17 h18 h19 hb hL0 HB
  have hL0 := Lib.hid hL1.out
  have HB := Lib.hid HB1.out
  clear hL1 HB1
  try simp only [Act.put, List.getElem_toArray, List.getElem_cons_zero, List.getElem_cons_succ, List.setIfInBounds_toArray, List.set_cons_zero, List.set_cons_succ]
  refine wpAnyH_ready (rs := [9]) (by kernel_rfl) (by simp) (AllReadyH.cons rfl (fun K hK => ?_) AllReadyH.nil)
  go_simp
  go_at_call 5
  refine (H4.out _).mono ?_
  rintro e w' ⟨rfl, hb⟩
  obtain ⟨h0, h1, h2, h3, h4, h5, h6, h7, h8, h9, h10, h11, h12, h13, h14, h15, h16, h17, h18, h19⟩ := hHeld
  have hL1 := Lib.hid (Nat.le_trans hL0.out hb.size)
  have HB1 := Lib.hid (bstep HB.out hb)
  refine hK.out _ _ ⟨S_keep hL0.out hb K0.out h0, S_keep hL0.out hb K0.out h1, S_keep hL0.out hb K0.out h2, S_keep hL0.out hb K0.out h3, S_keep hL0.out hb K0.out h4, S_keep hL0.out hb K1.out h5, S_keep hL0.out hb K1.out h6, S_keep hL0.out hb K1.out h7, S_keep hL0.out hb K1.out h8, S_keep hL0.out hb K1.out h9, S_keep hL0.out hb K2.out h10, S_keep hL0.out hb K2.out h11, S_keep hL0.out hb K2.out h12, S_keep hL0.out hb K2.out h13, S_keep hL0.out hb K2.out h14, S_keep hL0.out hb K3.out h15, S_keep hL0.out hb K3.out h16, S_keep hL0.out hb K3.out h17, S_keep hL0.out hb K3.out h18, S_keep hL0.out hb K3.out h19⟩ (fun hHeld => ?_)
  clear hK K h0 h1 h2 h3 h4 h5 h6 h7 h8 h9 h10 h11 h12 h13 h14 h15 h16 h17 h18 h19 hb hL0 HB
  have hL0 := Lib.hid hL1.out
  have HB := Lib.hid HB1.out
  clear hL1 HB1
  try simp only [Act.put, List.getElem_toArray, List.getElem_cons_zero, List.getElem_cons_succ, List.setIfInBounds_toArray, List.set_cons_zero, List.set_cons_succ]
  refine wpAnyH_take (i := 10) (v := ?_) rfl (by kernel_rfl) (by kernel_rfl) (by kernel_rfl) (fun _ _ _ h => h) (Or.inl ⟨by kernel_rfl, ?_⟩) (by assumption) ?_
  rotate_left
  · (intro w hSw; (try dsimp only at hSw); go_simp; (try with_reducible rfl))
  try simp only [Act.put, List.getElem_toArray, List.getElem_cons_zero, List.getElem_cons_succ, List.setIfInBounds_toArray, List.set_cons_zero, List.set_cons_succ]
  refine wpAnyH_take (i := 11) (v := ?_) rfl (by kernel_rfl) (by kernel_rfl) (by kernel_rfl) (fun _ _ _ h => h) (Or.inl ⟨by kernel_rfl, ?_⟩) (by assumption) ?_
  rotate_left
  · (intro w hSw; (try dsimp only at hSw); go_simp; (try with_reducible rfl))
  try simp only [Act.put, List.getElem_toArray, List.getElem_cons_zero, List.getElem_cons_succ, List.setIfInBounds_toArray, List.set_cons_zero, List.set_cons_succ]
  refine wpAnyH_take (i := 12) (v := ?_) rfl (by kernel_rfl) (by kernel_rfl) (by kernel_rfl) (fun _ _ _ h => h) (Or.inl ⟨by kernel_rfl, ?_⟩) (by assumption) ?_
  rotate_left
  · (intro w hSw; (try dsimp only at hSw); go_simp; (try with_reducible rfl))
  try simp only [Act.put, List.getElem_toArray, List.getElem_cons_zero, List.getElem_cons_succ, List.setIfInBounds_toArray, List.set_cons_zero, List.set_cons_succ]
  refine wpAnyH_take (i := 13) (v := ?_) rfl (by kernel_rfl) (by kernel_rfl) (by kernel_rfl) (fun _ _ _ h => h) (Or.inl ⟨by kernel_rfl, ?_⟩) (by assumption) ?_
  rotate_left
  · (intro w hSw; (try dsimp only at hSw); go_simp; (try with_reducible rfl))
  try simp only [Act.put, List.getElem_toArray, List.getElem_cons_zero, List.getElem_cons_succ, List.setIfInBounds_toArray, List.set_cons_zero, List.set_cons_succ]
  refine wpAnyH_take (i := 15) (v := ?_) rfl (by kernel_rfl) (by kernel_rfl) (by kernel_rfl) (fun _ _ _ h => h) (Or.inl ⟨by kernel_rfl, ?_⟩) (by assumption) ?_
  rotate_left
  · (intro w hSw; (try dsimp only at hSw); go_simp; (try with_reducible rfl))
  try simp only [Act.put, List.getElem_toArray, List.getElem_cons_zero, List.getElem_cons_succ, List.setIfInBounds_toArray, List.set_cons_zero, List.set_cons_succ]
  refine wpAnyH_take (i := 17) (v := ?_) rfl (by kernel_rfl) (by kernel_rfl) (by kernel_rfl) (fun _ _ _ h => h) (Or.inl ⟨by kernel_rfl, ?_⟩) (by assumption) ?_
  rotate_left
  · (intro w hSw; (try dsimp only at hSw); go_simp; (try with_reducible rfl))
  try simp only [Act.put, List.getElem_toArray, List.getElem_cons_zero, List.getElem_cons_succ, List.setIfInBounds_toArray, List.set_cons_zero, List.set_cons_succ]
  refine wpAnyH_take (i := 18) (v := ?_) rfl (by kernel_rfl) (by kernel_rfl) (by kernel_rfl) (fun _ _ _ h => h) (Or.inl ⟨by kernel_rfl, ?_⟩) (by assumption) ?_
  rotate_left
  · (intro w hSw; (try dsimp only at hSw); go_simp; (try with_reducible rfl))
  try simp only [Act.put, List.getElem_toArray, List.getElem_cons_zero, List.getElem_cons_succ, List.setIfInBounds_toArray, List.set_cons_zero, List.set_cons_succ]
  refine wpAnyH_take (i := 19) (v := ?_) rfl (by kernel_rfl) (by kernel_rfl) (by kernel_rfl) (fun _ _ _ h => h) (Or.inl ⟨by kernel_rfl, ?_⟩) (by assumption) ?_
  rotate_left
  · (intro w hSw; (try dsimp only at hSw); go_simp; (try with_reducible rfl))
  try simp only [Act.put, List.getElem_toArray, List.getElem_cons_zero, List.getElem_cons_succ, List.setIfInBounds_toArray, List.set_cons_zero, List.set_cons_succ]
  refine wpAnyH_ready (rs := [14]) (by kernel_rfl) (by simp) (AllReadyH.cons rfl (fun K hK => ?_) AllReadyH.nil)
  go_simp
  go_at_call 7
  refine (H5.out _).mono ?_
  rintro e w' ⟨rfl, hb⟩
  obtain ⟨h0, h1, h2, h3, h4, h5, h6, h7, h8, h9, h10, h11, h12, h13, h14, h15, h16, h17, h18, h19⟩ := hHeld
  have hL1 := Lib.hid (Nat.le_trans hL0.out hb.size)
  have HB1 := Lib.hid (bstep HB.out hb)
  refine hK.out _ _ ⟨S_keep hL0.out hb K0.out h0, S_keep hL0.out hb K0.out h1, S_keep hL0.out hb K0.out h2, S_keep hL0.out hb K0.out h3, S_keep hL0.out hb K0.out h4, S_keep hL0.out hb K1.out h5, S_keep hL0.out hb K1.out h6, S_keep hL0.out hb K1.out h7, S_keep hL0.out hb K1.out h8, S_keep hL0.out hb K1.out h9, S_keep hL0.out hb K2.out h10, S_keep hL0.out hb K2.out h11, S_keep hL0.out hb K2.out h12, S_keep hL0.out hb K2.out h13, S_keep hL0.out hb K2.out h14, S_keep hL0.out hb K3.out h15, S_keep hL0.out hb K3.out h16, S_keep hL0.out hb K3.out h17, S_keep hL0.out hb K3.out h18, S_keep hL0.out hb K3.out h19⟩ (fun hHeld => ?_)
  clear hK K h0 h1 h2 h3 h4 h5 h6 h7 h8 h9 h10 h11 h12 h13 h14 h15 h16 h17 h18 h19 hb hL0 HB
  have hL0 := Lib.hid hL1.out
  have HB := Lib.hid HB1.out
  clear hL1 HB1
  try simp only [Act.put, List.getElem_toArray, List.getElem_cons_zero, List.getElem_cons_succ, List.setIfInBounds_toArray, List.set_cons_zero, List.set_cons_succ]
  refine wpAnyH_ready (rs := [16]) (by kernel_rfl) (by simp) (AllReadyH.cons rfl (fun K hK => ?_) AllReadyH.nil)
  go_simp
  go_at_call 7
  refine (H6.out _).mono ?_
  rintro e w' ⟨rfl, hb⟩
  obtain ⟨h0, h1, h2, h3, h4, h5, h6, h7, h8, h9, h10, h11, h12, h13, h14, h15, h16, h17, h18, h19⟩ := hHeld
  have hL1 := Lib.hid (Nat.le_trans hL0.out hb.size)
  have HB1 := Lib.hid (bstep HB.out hb)
  refine hK.out _ _ ⟨S_keep hL0.out hb K0.out h0, S_keep hL0.out hb K0.out h1, S_keep hL0.out hb K0.out h2, S_keep hL0.out hb K0.out h3, S_keep hL0.out hb K0.out h4, S_keep hL0.out hb K1.out h5, S_keep hL0.out hb K1.out h6, S_keep hL0.out hb K1.out h7, S_keep hL0.out hb K1.out h8, S_keep hL0.out hb K1.out h9, S_keep hL0.out hb K2.out h10, S_keep hL0.out hb K2.out h11, S_keep hL0.out hb K2.out h12, S_keep hL0.out hb K2.out h13, S_keep hL0.out hb K2.out h14, S_keep hL0.out hb K3.out h15, S_keep hL0.out hb K3.out h16, S_keep hL0.out hb K3.out h17, S_keep hL0.out hb K3.out h18, S_keep hL0.out hb K3.out h19⟩ (fun hHeld => ?_)
  clear hK K h0 h1 h2 h3 h4 h5 h6 h7 h8 h9 h10 h11 h12 h13 h14 h15 h16 h17 h18 h19 hb hL0 HB
  have hL0 := Lib.hid hL1.out
  have HB := Lib.hid HB1.out
  clear hL1 HB1
  try simp only [Act.put, List.getElem_toArray, List.getElem_cons_zero, List.getElem_cons_succ, List.setIfInBounds_toArray, List.set_cons_zero, List.set_cons_succ]
  refine wpAnyH_ready (rs := [20]) (by kernel_rfl) (by simp) (AllReadyH.cons rfl (fun K hK => ?_) AllReadyH.nil)
  go_simp
  go_at_call 7
  refine (H7.out _).mono ?_
  rintro e w' ⟨rfl, hb⟩
  obtain ⟨h0, h1, h2, h3, h4, h5, h6, h7, h8, h9, h10, h11, h12, h13, h14, h15, h16, h17, h18, h19⟩ := hHeld
  have hL1 := Lib.hid (Nat.le_trans hL0.out hb.size)
  have HB1 := Lib.hid (bstep HB.out hb)
  refine hK.out _ _ ⟨S_keep hL0.out hb K0.out h0, S_keep hL0.out hb K0.out h1, S_keep hL0.out hb K0.out h2, S_keep hL0.out hb K0.out h3, S_keep hL0.out hb K0.out h4, S_keep hL0.out hb K1.out h5, S_keep hL0.out hb K1.out h6, S_keep hL0.out hb K1.out h7, S_keep hL0.out hb K1.out h8, S_keep hL0.out hb K1.out h9, S_keep hL0.out hb K2.out h10, S_keep hL0.out hb K2.out h11, S_keep hL0.out hb K2.out h12, S_keep hL0.out hb K2.out h13, S_keep hL0.out hb K2.out h14, S_keep hL0.out hb K3.out h15, S_keep hL0.out hb K3.out h16, S_keep hL0.out hb K3.out h17, S_keep hL0.out hb K3.out h18, S_keep hL0.out hb K3.out h19⟩ (fun hHeld => ?_)
  clear hK K h0 h1 h2 h3 h4 h5 h6 h7 h8 h9 h10 h11 h12 h13 h14 h15 h16 h17 h18 h19 hb hL0 HB
  have hL0 := Lib.hid hL1.out
  have HB := Lib.hid HB1.out
  clear hL1 HB1
  try simp only [Act.put, List.getElem_toArray, List.getElem_cons_zero, List.getElem_cons_succ, List.setIfInBounds_toArray, List.set_cons_zero, List.set_cons_succ]
  refine wpAnyH_ready (rs := [21]) (by kernel_rfl) (by simp) (AllReadyH.cons rfl (fun K hK => ?_) AllReadyH.nil)
  go_simp
  go_at_call 7
  refine (H8.out _).mono ?_
  rintro e w' ⟨rfl, hb⟩
  obtain ⟨h0, h1, h2, h3, h4, h5, h6, h7, h8, h9, h10, h11, h12, h13, h14, h15, h16, h17, h18, h19⟩ := hHeld
  have hL1 := Lib.hid (Nat.le_trans hL0.out hb.size)
  have HB1 := Lib.hid (bstep HB.out hb)
  refine hK.out _ _ ⟨S_keep hL0.out hb K0.out h0, S_keep hL0.out hb K0.out h1, S_keep hL0.out hb K0.out h2, S_keep hL0.out hb K0.out h3, S_keep hL0.out hb K0.out h4, S_keep hL0.out hb K1.out h5, S_keep hL0.out hb K1.out h6, S_keep hL0.out hb K1.out h7, S_keep hL0.out hb K1.out h8, S_keep hL0.out hb K1.out h9, S_keep hL0.out hb K2.out h10, S_keep hL0.out hb K2.out h11, S_keep hL0.out hb K2.out h12, S_keep hL0.out hb K2.out h13, S_keep hL0.out hb K2.out h14, S_keep hL0.out hb K3.out h15, S_keep hL0.out hb K3.out h16, S_keep hL0.out hb K3.out h17, S_keep hL0.out hb K3.out h18, S_keep hL0.out hb K3.out h19⟩ (fun hHeld => ?_)
  clear hK K h0 h1 h2 h3 h4 h5 h6 h7 h8 h9 h10 h11 h12 h13 h14 h15 h16 h17 h18 h19 hb hL0 HB
  have hL0 := Lib.hid hL1.out
  have HB := Lib.hid HB1.out
  clear hL1 HB1
  try simp only [Act.put, List.getElem_toArray, List.getElem_cons_zero, List.getElem_cons_succ, List.setIfInBounds_toArray, List.set_cons_zero, List.set_cons_succ]
  refine wpAnyH_take (i := 22) (v := ?_) rfl (by kernel_rfl) (by kernel_rfl) (by kernel_rfl) (fun _ _ _ h => h) (Or.inl ⟨by kernel_rfl, ?_⟩) (by assumption) ?_
  rotate_left
  · (intro w hSw; (try dsimp only at hSw); go_simp; (try with_reducible rfl))
  try simp only [Act.put, List.getElem_toArray, List.getElem_cons_zero, List.getElem_cons_succ, List.setIfInBounds_toArray, List.set_cons_zero, List.set_cons_succ]
  refine wpAnyH_take (i := 23) (v := ?_) rfl (by kernel_rfl) (by kernel_rfl) (by kernel_rfl) (fun _ _ _ h => h) (Or.inl ⟨by kernel_rfl, ?_⟩) (by assumption) ?_
  rotate_left
  · (intro w hSw; (try dsimp only at hSw); go_simp; (try with_reducible rfl))
  try simp only [Act.put, List.getElem_toArray, List.getElem_cons_zero, List.getElem_cons_succ, List.setIfInBounds_toArray, List.set_cons_zero, List.set_cons_succ]
  refine wpAnyH_take (i := 24) (v := ?_) rfl (by kernel_rfl) (by kernel_rfl) (by kernel_rfl) (fun _ _ _ h => h) (Or.inl ⟨by kernel_rfl, ?_⟩) (by assumption) ?_
  rotate_left
  · (intro w hSw; (try dsimp only at hSw); go_simp; (try with_reducible rfl))
  try simp only [Act.put, List.getElem_toArray, List.getElem_cons_zero, List.getElem_cons_succ, List.setIfInBounds_toArray, List.set_cons_zero, List.set_cons_succ]
  refine wpAnyH_take (i := 25) (v := ?_) rfl (by kernel_rfl) (by kernel_rfl) (by kernel_rfl) (fun _ _ _ h => h) (Or.inl ⟨by kernel_rfl, ?_⟩) (by assumption) ?_
  rotate_left
  · (intro w hSw; (try dsimp only at hSw); go_simp; (try with_reducible rfl))
  try simp only [Act.put, List.getElem_toArray, List.getElem_cons_zero, List.getElem_cons_succ, List.setIfInBounds_toArray, List.set_cons_zero, List.set_cons_succ]
  refine wpAnyH_take (i := 26) (v := ?_) rfl (by kernel_rfl) (by kernel_rfl) (by kernel_rfl) (fun _ _ _ h => h) (Or.inl ⟨by kernel_rfl, ?_⟩) (by assumption) ?_
  rotate_left
  · (intro w hSw; (try dsimp only at hSw); go_simp; (try with_reducible rfl))
  try simp only [Act.put, List.getElem_toArray, List.getElem_cons_zero, List.getElem_cons_succ, List.setIfInBounds_toArray, List.set_cons_zero, List.set_cons_succ]
  refine wpAnyH_take (i := 28) (v := ?_) rfl (by kernel_rfl) (by kernel_rfl) (by kernel_rfl) (fun _ _ _ h => h) (Or.inl ⟨by kernel_rfl, ?_⟩) (by assumption) ?_
  rotate_left
  · (intro w hSw; (try dsimp only at hSw); go_simp; (try with_reducible rfl))
  try simp only [Act.put, List.getElem_toArray, List.getElem_cons_zero, List.getElem_cons_succ, List.setIfInBounds_toArray, List.set_cons_zero, List.set_cons_succ]
  refine wpAnyH_take (i := 29) (v := ?_) rfl (by kernel_rfl) (by kernel_rfl) (by kernel_rfl) (fun _ _ _ h => h) (Or.inl ⟨by kernel_rfl, ?_⟩) (by assumption) ?_
  rotate_left
  · (intro w hSw; (try dsimp only at hSw); go_simp; (try with_reducible rfl))
  try simp only [Act.put, List.getElem_toArray, List.getElem_cons_zero, List.getElem_cons_succ, List.setIfInBounds_toArray, List.set_cons_zero, List.set_cons_succ]
  refine wpAnyH_ready (rs := [27]) (by kernel_rfl) (by simp) (AllReadyH.cons rfl (fun K hK => ?_) AllReadyH.nil)
  go_simp
  go_at_call 7
  refine (H5.out _).mono ?_
  rintro e w' ⟨rfl, hb⟩
  obtain ⟨h0, h1, h2, h3, h4, h5, h6, h7, h8, h9, h10, h11, h12, h13, h14, h15, h16, h17, h18, h19⟩ := hHeld
  have hL1 := Lib.hid (Nat.le_trans hL0.out hb.size)
  have HB1 := Lib.hid (bstep HB.out hb)
  refine hK.out _ _ ⟨S_keep hL0.out hb K0.out h0, S_keep hL0.out hb K0.out h1, S_keep hL0.out hb K0.out h2, S_keep hL0.out hb K0.out h3, S_keep hL0.out hb K0.out h4, S_keep hL0.out hb K1.out h5, S_keep hL0.out hb K1.out h6, S_keep hL0.out hb K1.out h7, S_keep hL0.out hb K1.out h8, S_keep hL0.out hb K1.out h9, S_keep hL0.out hb K2.out h10, S_keep hL0.out hb K2.out h11, S_keep hL0.out hb K2.out h12, S_keep hL0.out hb K2.out h13, S_keep hL0.out hb K2.out h14, S_keep hL0.out hb K3.out h15, S_keep hL0.out hb K3.out h16, S_keep hL0.out hb K3.out h17, S_keep hL0.out hb K3.out h18, S_keep hL0.out hb K3.out h19⟩ (fun hHeld => ?_)
  clear hK K h0 h1 h2 h3 h4 h5 h6 h7 h8 h9 h10 h11 h12 h13 h14 h15 h16 h17 h18 h19 hb hL0 HB
  have hL0 := Lib.hid hL1.out
  have HB := Lib.hid HB1.out
  clear hL1 HB1
  try simp only [Act.put, List.getElem_toArray, List.getElem_cons_zero, List.getElem_cons_succ, List.setIfInBounds_toArray, List.set_cons_zero, List.set_cons_succ]
  refine wpAnyH_ready (rs := [30]) (by kernel_rfl) (by simp) (AllReadyH.cons rfl (fun K hK => ?_) AllReadyH.nil)
  go_simp
  go_at_call 7
  refine (H9.out _).mono ?_
  rintro e w' ⟨rfl, hb⟩
  obtain ⟨h0, h1, h2, h3, h4, h5, h6, h7, h8, h9, h10, h11, h12, h13, h14, h15, h16, h17, h18, h19⟩ := hHeld
  have hL1 := Lib.hid (Nat.le_trans hL0.out hb.size)
  have HB1 := Lib.hid (bstep HB.out hb)
  refine hK.out _ _ ⟨S_keep hL0.out hb K0.out h0, S_keep hL0.out hb K0.out h1, S_keep hL0.out hb K0.out h2, S_keep hL0.out hb K0.out h3, S_keep hL0.out hb K0.out h4, S_keep hL0.out hb K1.out h5, S_keep hL0.out hb K1.out h6, S_keep hL0.out hb K1.out h7, S_keep hL0.out hb K1.out h8, S_keep hL0.out hb K1.out h9, S_keep hL0.out hb K2.out h10, S_keep hL0.out hb K2.out h11, S_keep hL0.out hb K2.out h12, S_keep hL0.out hb K2.out h13, S_keep hL0.out hb K2.out h14, S_keep hL0.out hb K3.out h15, S_keep hL0.out hb K3.out h16, S_keep hL0.out hb K3.out h17, S_keep hL0.out hb K3.out h18, S_keep hL0.out hb K3.out h19⟩ (fun hHeld => ?_)
  clear hK K h0 h1 h2 h3 h4 h5 h6 h7 h8 h9 h10 h11 h12 h13 h14 h15 h16 h17 h18 h19 hb hL0 HB
  have hL0 := Lib.hid hL1.out
  have HB := Lib.hid HB1.out
  clear hL1 HB1
  try simp only [Act.put, List.getElem_toArray, List.getElem_cons_zero, List.getElem_cons_succ, List.setIfInBounds_toArray, List.set_cons_zero, List.set_cons_succ]
  refine wpAnyH_take (i := 31) (v := ?_) rfl (by kernel_rfl) (by kernel_rfl) (by kernel_rfl) (fun _ _ _ h => h) (Or.inl ⟨by kernel_rfl, ?_⟩) (by assumption) ?_
  rotate_left
  · (intro w hSw; (try dsimp only at hSw); go_simp; (try with_reducible rfl))
  try simp only [Act.put, List.getElem_toArray, List.getElem_cons_zero, List.getElem_cons_succ, List.setIfInBounds_toArray, List.set_cons_zero, List.set_cons_succ]
  refine wpAnyH_take (i := 32) (v := ?_) rfl (by kernel_rfl) (by kernel_rfl) (by kernel_rfl) (fun _ _ _ h => h) (Or.inl ⟨by kernel_rfl, ?_⟩) (by assumption) ?_
  rotate_left
  · (intro w hSw; (try dsimp only at hSw); go_simp; (try with_reducible rfl))
  try simp only [Act.put, List.getElem_toArray, List.getElem_cons_zero, List.getElem_cons_succ, List.setIfInBounds_toArray, List.set_cons_zero, List.set_cons_succ]
  refine wpAnyH_take (i := 33) (v := ?_) rfl (by kernel_rfl) (by kernel_rfl) (by kernel_rfl) (fun _ _ _ h => h) (Or.inl ⟨by kernel_rfl, ?_⟩) (by assumption) ?_
  rotate_left
  · (intro w hSw; (try dsimp only at hSw); go_simp; (try with_reducible rfl))
  try simp only [Act.put, List.getElem_toArray, List.getElem_cons_zero, List.getElem_cons_succ, List.setIfInBounds_toArray, List.set_cons_zero, List.set_cons_succ]
  refine wpAnyH_take (i := 34) (v := ?_) rfl (by kernel_rfl) (by kernel_rfl) (by kernel_rfl) (fun _ _ _ h => h) (Or.inl ⟨by kernel_rfl, ?_⟩) (by assumption) ?_
  rotate_left
  · (intro w hSw; (try dsimp only at hSw); go_simp; (try with_reducible rfl))
  try simp only [Act.put, List.getElem_toArray, List.getElem_cons_zero, List.getElem_cons_succ, List.setIfInBounds_toArray, List.set_cons_zero, List.set_cons_succ]
  refine wpAnyH_take (i := 35) (v := ?_) rfl (by kernel_rfl) (by kernel_rfl) (by kernel_rfl) (fun _ _ _ h => h) (Or.inl ⟨by kernel_rfl, ?_⟩) (by assumption) ?_
  rotate_left
  · (intro w hSw; (try dsimp only at hSw); go_simp; (try with_reducible rfl))
  try simp only [Act.put, List.getElem_toArray, List.getElem_cons_zero, List.getElem_cons_succ, List.setIfInBounds_toArray, List.set_cons_zero, List.set_cons_succ]
  refine wpAnyH_take (i := 37) (v := ?_) rfl (by kernel_rfl) (by kernel_rfl) (by kernel_rfl) (fun _ _ _ h => h) (Or.inl ⟨by kernel_rfl, ?_⟩) (by assumption) ?_
  rotate_left
  · (intro w hSw; (try dsimp only at hSw); go_simp; (try with_reducible rfl))
  try simp only [Act.put, List.getElem_toArray, List.getElem_cons_zero, List.getElem_cons_succ, List.setIfInBounds_toArray, List.set_cons_zero, List.set_cons_succ]
  refine wpAnyH_ready (rs := [36]) (by kernel_rfl) (by simp) (AllReadyH.cons rfl (fun K hK => ?_) AllReadyH.nil)
  go_simp
  go_at_call 5
  refine (H10.out _).mono ?_
  rintro e w' ⟨rfl, hb⟩
  obtain ⟨h0, h1, h2, h3, h4, h5, h6, h7, h8, h9, h10, h11, h12, h13, h14, h15, h16, h17, h18, h19⟩ := hHeld
  have hL1 := Lib.hid (Nat.le_trans hL0.out hb.size)
  have HB1 := Lib.hid (bstep HB.out hb)
  refine hK.out _ _ ⟨S_keep hL0.out hb K0.out h0, S_keep hL0.out hb K0.out h1, S_keep hL0.out hb K0.out h2, S_keep hL0.out hb K0.out h3, S_keep hL0.out hb K0.out h4, S_keep hL0.out hb K1.out h5, S_keep hL0.out hb K1.out h6, S_keep hL0.out hb K1.out h7, S_keep hL0.out hb K1.out h8, S_keep hL0.out hb K1.out h9, S_keep hL0.out hb K2.out h10, S_keep hL0.out hb K2.out h11, S_keep hL0.out hb K2.out h12, S_keep hL0.out hb K2.out h13, S_keep hL0.out hb K2.out h14, S_keep hL0.out hb K3.out h15, S_keep hL0.out hb K3.out h16, S_keep hL0.out hb K3.out h17, S_keep hL0.out hb K3.out h18, S_keep hL0.out hb K3.out h19⟩ (fun hHeld => ?_)
  clear hK K h0 h1 h2 h3 h4 h5 h6 h7 h8 h9 h10 h11 h12 h13 h14 h15 h16 h17 h18 h19 hb hL0 HB
  have hL0 := Lib.hid hL1.out
  have HB := Lib.hid HB1.out
  clear hL1 HB1
  try simp only [Act.put, List.getElem_toArray, List.getElem_cons_zero, List.getElem_cons_succ, List.setIfInBounds_toArray, List.set_cons_zero, List.set_cons_succ]
  refine wpAnyH_take (i := 38) (v := ?_) rfl (by kernel_rfl) (by kernel_rfl) (by kernel_rfl) (fun _ _ _ h => h) (Or.inl ⟨by kernel_rfl, ?_⟩) (by assumption) ?_
  rotate_left
  · (intro w hSw; (try dsimp only at hSw); go_simp; (try with_reducible rfl))
  try simp only [Act.put, List.getElem_toArray, List.getElem_cons_zero, List.getElem_cons_succ, List.setIfInBounds_toArray, List.set_cons_zero, List.set_cons_succ]
  refine wpAnyH_take (i := 39) (v := ?_) rfl (by kernel_rfl) (by kernel_rfl) (by kernel_rfl) (fun _ _ _ h => h) (Or.inl ⟨by kernel_rfl, ?_⟩) (by assumption) ?_
  rotate_left
  · (intro w hSw; (try dsimp only at hSw); go_simp; (try with_reducible rfl))
  try simp only [Act.put, List.getElem_toArray, List.getElem_cons_zero, List.getElem_cons_succ, List.setIfInBounds_toArray, List.set_cons_zero, List.set_cons_succ]
  refine wpAnyH_take (i := 40) (v := ?_) rfl (by kernel_rfl) (by kernel_rfl) (by kernel_rfl) (fun _ _ _ h => h) (Or.inl ⟨by kernel_rfl, ?_⟩) (by assumption) ?_
  rotate_left
  · (intro w hSw; (try dsimp only at hSw); go_simp; (try with_reducible rfl))
  try simp only [Act.put, List.getElem_toArray, List.getElem_cons_zero, List.getElem_cons_succ, List.setIfInBounds_toArray, List.set_cons_zero, List.set_cons_succ]
  refine wpAnyH_take (i := 41) (v := ?_) rfl (by kernel_rfl) (by kernel_rfl) (by kernel_rfl) (fun _ _ _ h => h) (Or.inl ⟨by kernel_rfl, ?_⟩) (by assumption) ?_
  rotate_left
  · (intro w hSw; (try dsimp only at hSw); go_simp; (try with_reducible rfl))
  try simp only [Act.put, List.getElem_toArray, List.getElem_cons_zero, List.getElem_cons_succ, List.setIfInBounds_toArray, List.set_cons_zero, List.set_cons_succ]
  refine wpAnyH_take (i := 42) (v := ?_) rfl (by kernel_rfl) (by kernel_rfl) (by kernel_rfl) (fun _ _ _ h => h) (Or.inl ⟨by kernel_rfl, ?_⟩) (by assumption) ?_
  rotate_left
  · (intro w hSw; (try dsimp only at hSw); go_simp; (try with_reducible rfl))
  try simp only [Act.put, List.getElem_toArray, List.getElem_cons_zero, List.getElem_cons_succ, List.setIfInBounds_toArray, List.set_cons_zero, List.set_cons_succ]
  refine wpAnyH_take (i := 44) (v := ?_) rfl (by kernel_rfl) (by kernel_rfl) (by kernel_rfl) (fun _ _ _ h => h) (Or.inl ⟨by kernel_rfl, ?_⟩) (by assumption) ?_
  rotate_left
  · (intro w hSw; (try dsimp only at hSw); go_simp; (try with_reducible rfl))
  try simp only [Act.put, List.getElem_toArray, List.getElem_cons_zero, List.getElem_cons_succ, List.setIfInBounds_toArray, List.set_cons_zero, List.set_cons_succ]
  refine wpAnyH_ready (rs := [43]) (by kernel_rfl) (by simp) (AllReadyH.cons rfl (fun K hK => ?_) AllReadyH.nil)
  go_simp
  go_at_call 5
  refine (H11.out _).mono ?_
  rintro e w' ⟨rfl, hb⟩
  obtain ⟨h0, h1, h2, h3, h4, h5, h6, h7, h8, h9, h10, h11, h12, h13, h14, h15, h16, h17, h18, h19⟩ := hHeld
  have hL1 := Lib.hid (Nat.le_trans hL0.out hb.size)
  have HB1 := Lib.hid (bstep HB.out hb)
  refine hK.out _ _ ⟨S_keep hL0.out hb K0.out h0, S_keep hL0.out hb K0.out h1, S_keep hL0.out hb K0.out h2, S_keep hL0.out hb K0.out h3, S_keep hL0.out hb K0.out h4, S_keep hL0.out hb K1.out h5, S_keep hL0.out hb K1.out h6, S_keep hL0.out hb K1.out h7, S_keep hL0.out hb K1.out h8, S_keep hL0.out hb K1.out h9, S_keep hL0.out hb K2.out h10, S_keep hL0.out hb K2.out h11, S_keep hL0.out hb K2.out h12, S_keep hL0.out hb K2.out h13, S_keep hL0.out hb K2.out h14, S_keep hL0.out hb K3.out h15, S_keep hL0.out hb K3.out h16, S_keep hL0.out hb K3.out h17, S_keep hL0.out hb K3.out h18, S_keep hL0.out hb K3.out h19⟩ (fun hHeld => ?_)
  clear hK K h0 h1 h2 h3 h4 h5 h6 h7 h8 h9 h10 h11 h12 h13 h14 h15 h16 h17 h18 h19 hb hL0 HB
  have hL0 := Lib.hid hL1.out
  have HB := Lib.hid HB1.out
  clear hL1 HB1
  try simp only [Act.put, List.getElem_toArray, List.getElem_cons_zero, List.getElem_cons_succ, List.setIfInBounds_toArray, List.set_cons_zero, List.set_cons_succ]
  refine wpAnyH_take (i := 45) (v := ?_) rfl (by kernel_rfl) (by kernel_rfl) (by kernel_rfl) (fun _ _ _ h => h) (Or.inl ⟨by kernel_rfl, ?_⟩) (by assumption) ?_
  rotate_left
  · (intro w hSw; (try dsimp only at hSw); go_simp; (try with_reducible rfl))
  try simp only [Act.put, List.getElem_toArray, List.getElem_cons_zero, List.getElem_cons_succ, List.setIfInBounds_toArray, List.set_cons_zero, List.set_cons_succ]
  refine wpAnyH_take (i := 46) (v := ?_) rfl (by kernel_rfl) (by kernel_rfl) (by kernel_rfl) (fun _ _ _ h => h) (Or.inl ⟨by kernel_rfl, ?_⟩) (by assumption) ?_
  rotate_left
  · (intro w hSw; (try dsimp only at hSw); go_simp; (try with_reducible rfl))
  try simp only [Act.put, List.getElem_toArray, List.getElem_cons_zero, List.getElem_cons_succ, List.setIfInBounds_toArray, List.set_cons_zero, List.set_cons_succ]
  have HS := hHeld
  refine wpAnyH_done (by kernel_rfl) ?_ _
  go_wp2_with fail
  have HBd := Lib.hid (HB.out).drew
  clear HB
  have HB := Lib.hid HBd.out
  clear HBd
  have hLd := Lib.hid (le_drew hL0.out)
  clear hL0
  have hL0 := Lib.hid hLd.out
  clear hLd
  refine wp_region_held_drew (S := (fun w' => w'.cell? ⟨W.heap.size, 0, none⟩ = some (.int .u64 s.a) ∧ w'.cell? ⟨W.heap.size, 1, none⟩ = some (.int .u64 s.b) ∧ w'.cell? ⟨W.heap.size, 2, none⟩ = some (.int .u64 s.c) ∧ w'.cell? ⟨W.heap.size, 3, none⟩ = some (.int .u64 s.d) ∧ w'.cell? ⟨W.heap.size, 4, none⟩ = some (.bool f) ∧ w'.cell? ⟨W.heap.size + 1, 0, none⟩ = some (.int .u64 s.a) ∧ w'.cell? ⟨W.heap.size + 1, 1, none⟩ = some (.int .u64 s.b) ∧ w'.cell? ⟨W.heap.size + 1, 2, none⟩ = some (.int .u64 s.c) ∧ w'.cell? ⟨W.heap.size + 1, 3, none⟩ = some (.int .u64 s.d) ∧ w'.cell? ⟨W.heap.size + 1, 4, none⟩ = some (.bool f) ∧ w'.cell? ⟨W.heap.size + 1 + 1, 0, none⟩ = some (.int .u64 u.a) ∧ w'.cell? ⟨W.heap.size + 1 + 1, 1, none⟩ = some (.int .u64 u.b) ∧ w'.cell? ⟨W.heap.size + 1 + 1, 2, none⟩ = some (.int .u64 u.c) ∧ w'.cell? ⟨W.heap.size + 1 + 1, 3, none⟩ = some (.int .u64 u.d) ∧ w'.cell? ⟨W.heap.size + 1 + 1, 4, none⟩ = some (.bool h) ∧ w'.cell? ⟨m, 0, none⟩ = some (.int .u64 0) ∧ w'.cell? ⟨m, 1, none⟩ = some (.int .u64 0) ∧ w'.cell? ⟨m, 2, none⟩ = some (.int .u64 0) ∧ w'.cell? ⟨m, 3, none⟩ = some (.int .u64 0) ∧ w'.cell? ⟨m, 4, none⟩ = some (.bool true))) (by kernel_rfl) HS (fun hHeld => ?_)
  clear HS
  refine wpAnyH_take (i := 0) (v := ?_) rfl (by kernel_rfl) (by kernel_rfl) (by kernel_rfl) (fun _ _ _ h => h) (Or.inl ⟨by kernel_rfl, ?_⟩) (by assumption) ?_
  rotate_left
  · (intro w hSw; (try dsimp only at hSw); go_simp; (try with_reducible rfl))
  try simp only [Act.put, List.getElem_toArray, List.getElem_cons_zero, List.getElem_cons_succ, List.setIfInBounds_toArray, List.set_cons_zero, List.set_cons_succ]
  refine wpAnyH_take (i := 1) (v := ?_) rfl (by kernel_rfl) (by kernel_rfl) (by kernel_rfl) (fun _ _ _ h => h) (Or.inl ⟨by kernel_rfl, ?_⟩) (by assumption) ?_
  rotate_left
  · (intro w hSw; (try dsimp only at hSw); go_simp; (try with_reducible rfl))
  try simp only [Act.put, List.getElem_toArray, List.getElem_cons_zero, List.getElem_cons_succ, List.setIfInBounds_toArray, List.set_cons_zero, List.set_cons_succ]
  refine wpAnyH_take (i := 3) (v := ?_) rfl (by kernel_rfl) (by kernel_rfl) (by kernel_rfl) (fun _ _ _ h => h) (Or.inl ⟨by kernel_rfl, ?_⟩) (by assumption) ?_
  rotate_left
  · (intro w hSw; (try dsimp only at hSw); go_simp; (try with_reducible rfl))
  try simp only [Act.put, List.getElem_toArray, List.getElem_cons_zero, List.getElem_cons_succ, List.setIfInBounds_toArray, List.set_cons_zero, List.set_cons_succ]
  refine wpAnyH_take (i := 4) (v := ?_) rfl (by kernel_rfl) (by kernel_rfl) (by kernel_rfl) (fun _ _ _ h => h) (Or.inl ⟨by kernel_rfl, ?_⟩) (by assumption) ?_
  rotate_left
  · (intro w hSw; (try dsimp only at hSw); go_simp; (try with_reducible rfl))
  try simp only [Act.put, List.getElem_toArray, List.getElem_cons_zero, List.getElem_cons_succ, List.setIfInBounds_toArray, List.set_cons_zero, List.set_cons_succ]
  refine wpAnyH_ready (rs := [2]) (by kernel_rfl) (by simp) (AllReadyH.cons rfl (fun K hK => ?_) AllReadyH.nil)
  go_simp
  go_at_call 9
  refine (H12.out _).mono ?_
  rintro e w' ⟨rfl, hb⟩
  obtain ⟨h0, h1, h2, h3, h4, h5, h6, h7, h8, h9, h10, h11, h12, h13, h14, h15, h16, h17, h18, h19⟩ := hHeld
  have hL1 := Lib.hid (Nat.le_trans hL0.out hb.size)
  have HB1 := Lib.hid (bstep HB.out hb)
  refine hK.out _ _ ⟨S_keep hL0.out hb K0.out h0, S_keep hL0.out hb K0.out h1, S_keep hL0.out hb K0.out h2, S_keep hL0.out hb K0.out h3, S_keep hL0.out hb K0.out h4, S_keep hL0.out hb K1.out h5, S_keep hL0.out hb K1.out h6, S_keep hL0.out hb K1.out h7, S_keep hL0.out hb K1.out h8, S_keep hL0.out hb K1.out h9, S_keep hL0.out hb K2.out h10, S_keep hL0.out hb K2.out h11, S_keep hL0.out hb K2.out h12, S_keep hL0.out hb K2.out h13, S_keep hL0.out hb K2.out h14, S_keep hL0.out hb K3.out h15, S_keep hL0.out hb K3.out h16, S_keep hL0.out hb K3.out h17, S_keep hL0.out hb K3.out h18, S_keep hL0.out hb K3.out h19⟩ (fun hHeld => ?_)
  clear hK K h0 h1 h2 h3 h4 h5 h6 h7 h8 h9 h10 h11 h12 h13 h14 h15 h16 h17 h18 h19 hb hL0 HB
  have hL0 := Lib.hid hL1.out
  have HB := Lib.hid HB1.out
  clear hL1 HB1
  try simp only [Act.put, List.getElem_toArray, List.getElem_cons_zero, List.getElem_cons_succ, List.setIfInBounds_toArray, List.set_cons_zero, List.set_cons_succ]
  refine wpAnyH_ready (rs := [5]) (by kernel_rfl) (by simp) (AllReadyH.cons rfl (fun K hK => ?_) AllReadyH.nil)
  go_simp
  go_at_call 9
  refine (H13.out _).mono ?_
  rintro e w' ⟨rfl, hb⟩
  obtain ⟨h0, h1, h2, h3, h4, h5, h6, h7, h8, h9, h10, h11, h12, h13, h14, h15, h16, h17, h18, h19⟩ := hHeld
  have hL1 := Lib.hid (Nat.le_trans hL0.out hb.size)
  have HB1 := Lib.hid (bstep HB.out hb)
  refine hK.out _ _ ⟨S_keep hL0.out hb K0.out h0, S_keep hL0.out hb K0.out h1, S_keep hL0.out hb K0.out h2, S_keep hL0.out hb K0.out h3, S_keep hL0.out hb K0.out h4, S_keep hL0.out hb K1.out h5, S_keep hL0.out hb K1.out h6, S_keep hL0.out hb K1.out h7, S_keep hL0.out hb K1.out h8, S_keep hL0.out hb K1.out h9, S_keep hL0.out hb K2.out h10, S_keep hL0.out hb K2.out h11, S_keep hL0.out hb K2.out h12, S_keep hL0.out hb K2.out h13, S_keep hL0.out hb K2.out h14, S_keep hL0.out hb K3.out h15, S_keep hL0.out hb K3.out h16, S_keep hL0.out hb K3.out h17, S_keep hL0.out hb K3.out h18, S_keep hL0.out hb K3.out h19⟩ (fun hHeld => ?_)
  clear hK K h0 h1 h2 h3 h4 h5 h6 h7 h8 h9 h10 h11 h12 h13 h14 h15 h16 h17 h18 h19 hb hL0 HB
  have hL0 := Lib.hid hL1.out
  have HB := Lib.hid HB1.out
  clear hL1 HB1
  try simp only [Act.put, List.getElem_toArray, List.getElem_cons_zero, List.getElem_cons_succ, List.setIfInBounds_toArray, List.set_cons_zero, List.set_cons_succ]
  refine wpAnyH_take (i := 6) (v := ?_) rfl (by kernel_rfl) (by kernel_rfl) (by kernel_rfl) (fun _ _ _ h => h) (Or.inl ⟨by kernel_rfl, ?_⟩) (by assumption) ?_
  rotate_left
  · (intro w hSw; (try dsimp only at hSw); go_simp; (try with_reducible rfl))
  try simp only [Act.put, List.getElem_toArray, List.getElem_cons_zero, List.getElem_cons_succ, List.setIfInBounds_toArray, List.set_cons_zero, List.set_cons_succ]
  refine wpAnyH_take (i := 7) (v := ?_) rfl (by kernel_rfl) (by kernel_rfl) (by kernel_rfl) (fun _ _ _ h => h) (Or.inl ⟨by kernel_rfl, ?_⟩) (by assumption) ?_
  rotate_left
  · (intro w hSw; (try dsimp only at hSw); go_simp; (try with_reducible rfl))
  try simp only [Act.put, List.getElem_toArray, List.getElem_cons_zero, List.getElem_cons_succ, List.setIfInBounds_toArray, List.set_cons_zero, List.set_cons_succ]
  have HS := hHeld
  refine wpAnyH_done (by kernel_rfl) ?_ _
  go_wp2_with fail
  have HBd := Lib.hid (HB.out).drew
  clear HB
  have HB := Lib.hid HBd.out
  clear HBd
  have hLd := Lib.hid (le_drew hL0.out)
  clear hL0
  have hL0 := Lib.hid hLd.out
  clear hLd
  refine wp_region_held_drew (S := (fun w' => w'.cell? ⟨W.heap.size, 0, none⟩ = some (.int .u64 s.a) ∧ w'.cell? ⟨W.heap.size, 1, none⟩ = some (.int .u64 s.b) ∧ w'.cell? ⟨W.heap.size, 2, none⟩ = some (.int .u64 s.c) ∧ w'.cell? ⟨W.heap.size, 3, none⟩ = some (.int .u64 s.d) ∧ w'.cell? ⟨W.heap.size, 4, none⟩ = some (.bool f) ∧ w'.cell? ⟨W.heap.size + 1, 0, none⟩ = some (.int .u64 s.a) ∧ w'.cell? ⟨W.heap.size + 1, 1, none⟩ = some (.int .u64 s.b) ∧ w'.cell? ⟨W.heap.size + 1, 2, none⟩ = some (.int .u64 s.c) ∧ w'.cell? ⟨W.heap.size + 1, 3, none⟩ = some (.int .u64 s.d) ∧ w'.cell? ⟨W.heap.size + 1, 4, none⟩ = some (.bool f) ∧ w'.cell? ⟨W.heap.size + 1 + 1, 0, none⟩ = some (.int .u64 u.a) ∧ w'.cell? ⟨W.heap.size + 1 + 1, 1, none⟩ = some (.int .u64 u.b) ∧ w'.cell? ⟨W.heap.size + 1 + 1, 2, none⟩ = some (.int .u64 u.c) ∧ w'.cell? ⟨W.heap.size + 1 + 1, 3, none⟩ = some (.int .u64 u.d) ∧ w'.cell? ⟨W.heap.size + 1 + 1, 4, none⟩ = some (.bool h) ∧ w'.cell? ⟨m, 0, none⟩ = some (.int .u64 0) ∧ w'.cell? ⟨m, 1, none⟩ = some (.int .u64 0) ∧ w'.cell? ⟨m, 2, none⟩ = some (.int .u64 0) ∧ w'.cell? ⟨m, 3, none⟩ = some (.int .u64 0) ∧ w'.cell? ⟨m, 4, none⟩ = some (.bool true))) (by kernel_rfl) HS (fun hHeld => ?_)
  clear HS
  refine wpAnyH_take (i := 0) (v := ?_) rfl (by kernel_rfl) (by kernel_rfl) (by kernel_rfl) (fun _ _ _ h => h) (Or.inl ⟨by kernel_rfl, ?_⟩) (by assumption) ?_
  rotate_left
  · (intro w hSw; (try dsimp only at hSw); go_simp; (try with_reducible rfl))
  try simp only [Act.put, List.getElem_toArray, List.getElem_cons_zero, List.getElem_cons_succ, List.setIfInBounds_toArray, List.set_cons_zero, List.set_cons_succ]
  refine wpAnyH_take (i := 1) (v := ?_) rfl (by kernel_rfl) (by kernel_rfl) (by kernel_rfl) (fun _ _ _ h => h) (Or.inl ⟨by kernel_rfl, ?_⟩) (by assumption) ?_
  rotate_left
  · (intro w hSw; (try dsimp only at hSw); go_simp; (try with_reducible rfl))
  try simp only [Act.put, List.getElem_toArray, List.getElem_cons_zero, List.getElem_cons_succ, List.setIfInBounds_toArray, List.set_cons_zero, List.set_cons_succ]
  refine wpAnyH_ready (rs := [2]) (by kernel_rfl) (by simp) (AllReadyH.cons rfl (fun K hK => ?_) AllReadyH.nil)
  go_simp
  go_at_call 9
  refine (H14.out _).mono ?_
  rintro e w' ⟨rfl, hb⟩
  obtain ⟨h0, h1, h2, h3, h4, h5, h6, h7, h8, h9, h10, h11, h12, h13, h14, h15, h16, h17, h18, h19⟩ := hHeld
  have hL1 := Lib.hid (Nat.le_trans hL0.out hb.size)
  have HB1 := Lib.hid (bstep HB.out hb)
  refine hK.out _ _ ⟨S_keep hL0.out hb K0.out h0, S_keep hL0.out hb K0.out h1, S_keep hL0.out hb K0.out h2, S_keep hL0.out hb K0.out h3, S_keep hL0.out hb K0.out h4, S_keep hL0.out hb K1.out h5, S_keep hL0.out hb K1.out h6, S_keep hL0.out hb K1.out h7, S_keep hL0.out hb K1.out h8, S_keep hL0.out hb K1.out h9, S_keep hL0.out hb K2.out h10, S_keep hL0.out hb K2.out h11, S_keep hL0.out hb K2.out h12, S_keep hL0.out hb K2.out h13, S_keep hL0.out hb K2.out h14, S_keep hL0.out hb K3.out h15, S_keep hL0.out hb K3.out h16, S_keep hL0.out hb K3.out h17, S_keep hL0.out hb K3.out h18, S_keep hL0.out hb K3.out h19⟩ (fun hHeld => ?_)
  clear hK K h0 h1 h2 h3 h4 h5 h6 h7 h8 h9 h10 h11 h12 h13 h14 h15 h16 h17 h18 h19 hb hL0 HB
  have hL0 := Lib.hid hL1.out
  have HB := Lib.hid HB1.out
  clear hL1 HB1
  try simp only [Act.put, List.getElem_toArray, List.getElem_cons_zero, List.getElem_cons_succ, List.setIfInBounds_toArray, List.set_cons_zero, List.set_cons_succ]
  refine wpAnyH_take (i := 3) (v := ?_) rfl (by kernel_rfl) (by kernel_rfl) (by kernel_rfl) (fun _ _ _ h => h) (Or.inl ⟨by kernel_rfl, ?_⟩) (by assumption) ?_
  rotate_left
  · (intro w hSw; (try dsimp only at hSw); go_simp; (try with_reducible rfl))
  try simp only [Act.put, List.getElem_toArray, List.getElem_cons_zero, List.getElem_cons_succ, List.setIfInBounds_toArray, List.set_cons_zero, List.set_cons_succ]
  refine wpAnyH_take (i := 4) (v := ?_) rfl (by kernel_rfl) (by kernel_rfl) (by kernel_rfl) (fun _ _ _ h => h) (Or.inl ⟨by kernel_rfl, ?_⟩) (by assumption) ?_
  rotate_left
  · (intro w hSw; (try dsimp only at hSw); go_simp; (try with_reducible rfl))
  try simp only [Act.put, List.getElem_toArray, List.getElem_cons_zero, List.getElem_cons_succ, List.setIfInBounds_toArray, List.set_cons_zero, List.set_cons_succ]
  refine wpAnyH_take (i := 5) (v := ?_) rfl (by kernel_rfl) (by kernel_rfl) (by kernel_rfl) (fun _ _ _ h => h) (Or.inl ⟨by kernel_rfl, ?_⟩) (by assumption) ?_
  rotate_left
  · (intro w hSw; (try dsimp only at hSw); go_simp; (try with_reducible rfl))
  try simp only [Act.put, List.getElem_toArray, List.getElem_cons_zero, List.getElem_cons_succ, List.setIfInBounds_toArray, List.set_cons_zero, List.set_cons_succ]
  refine wpAnyH_take (i := 6) (v := ?_) rfl (by kernel_rfl) (by kernel_rfl) (by kernel_rfl) (fun _ _ _ h => h) (Or.inl ⟨by kernel_rfl, ?_⟩) (by assumption) ?_
  rotate_left
  · (intro w hSw; (try dsimp only at hSw); go_simp; (try with_reducible rfl))
  try simp only [Act.put, List.getElem_toArray, List.getElem_cons_zero, List.getElem_cons_succ, List.setIfInBounds_toArray, List.set_cons_zero, List.set_cons_succ]
  refine wpAnyH_take (i := 7) (v := ?_) rfl (by kernel_rfl) (by kernel_rfl) (by kernel_rfl) (fun _ _ _ h => h) (Or.inl ⟨by kernel_rfl, ?_⟩) (by assumption) ?_
  rotate_left
  · (intro w hSw; (try dsimp only at hSw); go_simp; (try with_reducible rfl))
  try simp only [Act.put, List.getElem_toArray, List.getElem_cons_zero, List.getElem_cons_succ, List.setIfInBounds_toArray, List.set_cons_zero, List.set_cons_succ]
  refine wpAnyH_take (i := 8) (v := ?_) rfl (by kernel_rfl) (by kernel_rfl) (by kernel_rfl) (fun _ _ _ h => h) (Or.inl ⟨by kernel_rfl, ?_⟩) (by assumption) ?_
  rotate_left
  · (intro w hSw; (try dsimp only at hSw); go_simp; (try with_reducible rfl))
  try simp only [Act.put, List.getElem_toArray, List.getElem_cons_zero, List.getElem_cons_succ, List.setIfInBounds_toArray, List.set_cons_zero, List.set_cons_succ]
  refine wpAnyH_take (i := 9) (v := ?_) rfl (by kernel_rfl) (by kernel_rfl) (by kernel_rfl) (fun _ _ _ h => h) (Or.inl ⟨by kernel_rfl, ?_⟩) (by assumption) ?_
  rotate_left
  · (intro w hSw; (try dsimp only at hSw); go_simp; (try with_reducible rfl))
  try simp only [Act.put, List.getElem_toArray, List.getElem_cons_zero, List.getElem_cons_succ, List.setIfInBounds_toArray, List.set_cons_zero, List.set_cons_succ]
  refine wpAnyH_take (i := 10) (v := ?_) rfl (by kernel_rfl) (by kernel_rfl) (by kernel_rfl) (fun _ _ _ h => h) (Or.inl ⟨by kernel_rfl, ?_⟩) (by assumption) ?_
  rotate_left
  · (intro w hSw; (try dsimp only at hSw); go_simp; (try with_reducible rfl))
  try simp only [Act.put, List.getElem_toArray, List.getElem_cons_zero, List.getElem_cons_succ, List.setIfInBounds_toArray, List.set_cons_zero, List.set_cons_succ]
  refine wpAnyH_take (i := 11) (v := undef) rfl (by kernel_rfl) (by kernel_rfl) (by kernel_rfl) (fun _ _ _ h => h) (Or.inr ⟨by kernel_rfl, rfl⟩) (by assumption) ?_
  try simp only [Act.put, List.getElem_toArray, List.getElem_cons_zero, List.getElem_cons_succ, List.setIfInBounds_toArray, List.set_cons_zero, List.set_cons_succ]
  refine wpAnyH_take (i := 12) (v := undef) rfl (by kernel_rfl) (by kernel_rfl) (by kernel_rfl) (fun _ _ _ h => h) (Or.inr ⟨by kernel_rfl, rfl⟩) (by assumption) ?_
  try simp only [Act.put, List.getElem_toArray, List.getElem_cons_zero, List.getElem_cons_succ, List.setIfInBounds_toArray, List.set_cons_zero, List.set_cons_succ]
  refine wpAnyH_take (i := 13) (v := undef) rfl (by kernel_rfl) (by kernel_rfl) (by kernel_rfl) (fun _ _ _ h => h) (Or.inr ⟨by kernel_rfl, rfl⟩) (by assumption) ?_
  try simp only [Act.put, List.getElem_toArray, List.getElem_cons_zero, List.getElem_cons_succ, List.setIfInBounds_toArray, List.set_cons_zero, List.set_cons_succ]
  refine wpAnyH_take (i := 14) (v := ?_) rfl (by kernel_rfl) (by kernel_rfl) (by kernel_rfl) (fun _ _ _ h => h) (Or.inl ⟨by kernel_rfl, ?_⟩) (by assumption) ?_
  rotate_left
  · (intro w hSw; (try dsimp only at hSw); go_simp; (try with_reducible rfl))
  try simp only [Act.put, List.getElem_toArray, List.getElem_cons_zero, List.getElem_cons_succ, List.setIfInBounds_toArray, List.set_cons_zero, List.set_cons_succ]
  refine wpAnyH_take (i := 15) (v := ?_) rfl (by kernel_rfl) (by kernel_rfl) (by kernel_rfl) (fun _ _ _ h => h) (Or.inl ⟨by kernel_rfl, ?_⟩) (by assumption) ?_
  rotate_left
  · (intro w hSw; (try dsimp only at hSw); go_simp; (try with_reducible rfl))
  try simp only [Act.put, List.getElem_toArray, List.getElem_cons_zero, List.getElem_cons_succ, List.setIfInBounds_toArray, List.set_cons_zero, List.set_cons_succ]
  refine wpAnyH_take (i := 16) (v := ?_) rfl (by kernel_rfl) (by kernel_rfl) (by kernel_rfl) (fun _ _ _ h => h) (Or.inl ⟨by kernel_rfl, ?_⟩) (by assumption) ?_
  rotate_left
  · (intro w hSw; (try dsimp only at hSw); go_simp; (try with_reducible rfl))
  try simp only [Act.put, List.getElem_toArray, List.getElem_cons_zero, List.getElem_cons_succ, List.setIfInBounds_toArray, List.set_cons_zero, List.set_cons_succ]
  refine wpAnyH_take (i := 17) (v := ?_) rfl (by kernel_rfl) (by kernel_rfl) (by kernel_rfl) (fun _ _ _ h => h) (Or.inl ⟨by kernel_rfl, ?_⟩) (by assumption) ?_
  rotate_left
  · (intro w hSw; (try dsimp only at hSw); go_simp; (try with_reducible rfl))
  try simp only [Act.put, List.getElem_toArray, List.getElem_cons_zero, List.getElem_cons_succ, List.setIfInBounds_toArray, List.set_cons_zero, List.set_cons_succ]
  refine wpAnyH_take (i := 18) (v := ?_) rfl (by kernel_rfl) (by kernel_rfl) (by kernel_rfl) (fun _ _ _ h => h) (Or.inl ⟨by kernel_rfl, ?_⟩) (by assumption) ?_
  rotate_left
  · (intro w hSw; (try dsimp only at hSw); go_simp; (try with_reducible rfl))
  try simp only [Act.put, List.getElem_toArray, List.getElem_cons_zero, List.getElem_cons_succ, List.setIfInBounds_toArray, List.set_cons_zero, List.set_cons_succ]
  refine wpAnyH_take (i := 19) (v := ?_) rfl (by kernel_rfl) (by kernel_rfl) (by kernel_rfl) (fun _ _ _ h => h) (Or.inl ⟨by kernel_rfl, ?_⟩) (by assumption) ?_
  rotate_left
  · (intro w hSw; (try dsimp only at hSw); go_simp; (try with_reducible rfl))
  try simp only [Act.put, List.getElem_toArray, List.getElem_cons_zero, List.getElem_cons_succ, List.setIfInBounds_toArray, List.set_cons_zero, List.set_cons_succ]
  refine wpAnyH_take (i := 20) (v := ?_) rfl (by kernel_rfl) (by kernel_rfl) (by kernel_rfl) (fun _ _ _ h => h) (Or.inl ⟨by kernel_rfl, ?_⟩) (by assumption) ?_
  rotate_left
  · (intro w hSw; (try dsimp only at hSw); go_simp; (try with_reducible rfl))
  try simp only [Act.put, List.getElem_toArray, List.getElem_cons_zero, List.getElem_cons_succ, List.setIfInBounds_toArray, List.set_cons_zero, List.set_cons_succ]
  refine wpAnyH_take (i := 21) (v := ?_) rfl (by kernel_rfl) (by kernel_rfl) (by kernel_rfl) (fun _ _ _ h => h) (Or.inl ⟨by kernel_rfl, ?_⟩) (by assumption) ?_
  rotate_left
  · (intro w hSw; (try dsimp only at hSw); go_simp; (try with_reducible rfl))
  try simp only [Act.put, List.getElem_toArray, List.getElem_cons_zero, List.getElem_cons_succ, List.setIfInBounds_toArray, List.set_cons_zero, List.set_cons_succ]
  refine wpAnyH_ready (rs := [22]) (by kernel_rfl) (by simp) (AllReadyH.cons rfl (fun K hK => ?_) AllReadyH.nil)
  go_simp
  go_at_call 9
  refine (H16.out _).mono ?_
  rintro e w' ⟨rfl, hb⟩
  obtain ⟨h0, h1, h2, h3, h4, h5, h6, h7, h8, h9, h10, h11, h12, h13, h14, h15, h16, h17, h18, h19⟩ := hHeld
  have hL1 := Lib.hid (Nat.le_trans hL0.out hb.size)
  have HB1 := Lib.hid (bstep HB.out hb)
  refine hK.out _ _ ⟨S_keep hL0.out hb K0.out h0, S_keep hL0.out hb K0.out h1, S_keep hL0.out hb K0.out h2, S_keep hL0.out hb K0.out h3, S_keep hL0.out hb K0.out h4, S_keep hL0.out hb K1.out h5, S_keep hL0.out hb K1.out h6, S_keep hL0.out hb K1.out h7, S_keep hL0.out hb K1.out h8, S_keep hL0.out hb K1.out h9, S_keep hL0.out hb K2.out h10, S_keep hL0.out hb K2.out h11, S_keep hL0.out hb K2.out h12, S_keep hL0.out hb K2.out h13, S_keep hL0.out hb K2.out h14, S_keep hL0.out hb K3.out h15, S_keep hL0.out hb K3.out h16, S_keep hL0.out hb K3.out h17, S_keep hL0.out hb K3.out h18, S_keep hL0.out hb K3.out h19⟩ (fun hHeld => ?_)
  clear hK K h0 h1 h2 h3 h4 h5 h6 h7 h8 h9 h10 h11 h12 h13 h14 h15 h16 h17 h18 h19 hb hL0 HB
  have hL0 := Lib.hid hL1.out
  have HB := Lib.hid HB1.out
  clear hL1 HB1
  try simp only [Act.put, List.getElem_toArray, List.getElem_cons_zero, List.getElem_cons_succ, List.setIfInBounds_toArray, List.set_cons_zero, List.set_cons_succ]
  refine wpAnyH_take (i := 23) (v := ?_) rfl (by kernel_rfl) (by kernel_rfl) (by kernel_rfl) (fun _ _ _ h => h) (Or.inl ⟨by kernel_rfl, ?_⟩) (by assumption) ?_
  rotate_left
  · (intro w hSw; (try dsimp only at hSw); go_simp; (try with_reducible rfl))
  try simp only [Act.put, List.getElem_toArray, List.getElem_cons_zero, List.getElem_cons_succ, List.setIfInBounds_toArray, List.set_cons_zero, List.set_cons_succ]
  refine wpAnyH_take (i := 24) (v := ?_) rfl (by kernel_rfl) (by kernel_rfl) (by kernel_rfl) (fun _ _ _ h => h) (Or.inl ⟨by kernel_rfl, ?_⟩) (by assumption) ?_
  rotate_left
  · (intro w hSw; (try dsimp only at hSw); go_simp; (try with_reducible rfl))
  try simp only [Act.put, List.getElem_toArray, List.getElem_cons_zero, List.getElem_cons_succ, List.setIfInBounds_toArray, List.set_cons_zero, List.set_cons_succ]
  refine wpAnyH_take (i := 25) (v := ?_) rfl (by kernel_rfl) (by kernel_rfl) (by kernel_rfl) (fun _ _ _ h => h) (Or.inl ⟨by kernel_rfl, ?_⟩) (by assumption) ?_
  rotate_left
  · (intro w hSw; (try dsimp only at hSw); go_simp; (try with_reducible rfl))
  try simp only [Act.put, List.getElem_toArray, List.getElem_cons_zero, List.getElem_cons_succ, List.setIfInBounds_toArray, List.set_cons_zero, List.set_cons_succ]
  refine wpAnyH_take (i := 26) (v := ?_) rfl (by kernel_rfl) (by kernel_rfl) (by kernel_rfl) (fun _ _ _ h => h) (Or.inl ⟨by kernel_rfl, ?_⟩) (by assumption) ?_
  rotate_left
  · (intro w hSw; (try dsimp only at hSw); go_simp; (try with_reducible rfl))
  try simp only [Act.put, List.getElem_toArray, List.getElem_cons_zero, List.getElem_cons_succ, List.setIfInBounds_toArray, List.set_cons_zero, List.set_cons_succ]
  refine wpAnyH_take (i := 27) (v := ?_) rfl (by kernel_rfl) (by kernel_rfl) (by kernel_rfl) (fun _ _ _ h => h) (Or.inl ⟨by kernel_rfl, ?_⟩) (by assumption) ?_
  rotate_left
  · (intro w hSw; (try dsimp only at hSw); go_simp; (try with_reducible rfl))
  try simp only [Act.put, List.getElem_toArray, List.getElem_cons_zero, List.getElem_cons_succ, List.setIfInBounds_toArray, List.set_cons_zero, List.set_cons_succ]
  refine wpAnyH_take (i := 28) (v := ?_) rfl (by kernel_rfl) (by kernel_rfl) (by kernel_rfl) (fun _ _ _ h => h) (Or.inl ⟨by kernel_rfl, ?_⟩) (by assumption) ?_
  rotate_left
  · (intro w hSw; (try dsimp only at hSw); go_simp; (try with_reducible rfl))
  try simp only [Act.put, List.getElem_toArray, List.getElem_cons_zero, List.getElem_cons_succ, List.setIfInBounds_toArray, List.set_cons_zero, List.set_cons_succ]
  refine wpAnyH_take (i := 29) (v := ?_) rfl (by kernel_rfl) (by kernel_rfl) (by kernel_rfl) (fun _ _ _ h => h) (Or.inl ⟨by kernel_rfl, ?_⟩) (by assumption) ?_
  rotate_left
  · (intro w hSw; (try dsimp only at hSw); go_simp; (try with_reducible rfl))
  try simp only [Act.put, List.getElem_toArray, List.getElem_cons_zero, List.getElem_cons_succ, List.setIfInBounds_toArray, List.set_cons_zero, List.set_cons_succ]
  refine wpAnyH_take (i := 30) (v := ?_) rfl (by kernel_rfl) (by kernel_rfl) (by kernel_rfl) (fun _ _ _ h => h) (Or.inl ⟨by kernel_rfl, ?_⟩) (by assumption) ?_
  rotate_left
  · (intro w hSw; (try dsimp only at hSw); go_simp; (try with_reducible rfl))
  try simp only [Act.put, List.getElem_toArray, List.getElem_cons_zero, List.getElem_cons_succ, List.setIfInBounds_toArray, List.set_cons_zero, List.set_cons_succ]
  refine wpAnyH_take (i := 31) (v := ?_) rfl (by kernel_rfl) (by kernel_rfl) (by kernel_rfl) (fun _ _ _ h => h) (Or.inl ⟨by kernel_rfl, ?_⟩) (by assumption) ?_
  rotate_left
  · (intro w hSw; (try dsimp only at hSw); go_simp; (try with_reducible rfl))
  try simp only [Act.put, List.getElem_toArray, List.getElem_cons_zero, List.getElem_cons_succ, List.setIfInBounds_toArray, List.set_cons_zero, List.set_cons_succ]
  refine wpAnyH_take (i := 32) (v := ?_) rfl (by kernel_rfl) (by kernel_rfl) (by kernel_rfl) (fun _ _ _ h => h) (Or.inl ⟨by kernel_rfl, ?_⟩) (by assumption) ?_
  rotate_left
  · (intro w hSw; (try dsimp only at hSw); go_simp; (try with_reducible rfl))
  try simp only [Act.put, List.getElem_toArray, List.getElem_cons_zero, List.getElem_cons_succ, List.setIfInBounds_toArray, List.set_cons_zero, List.set_cons_succ]
  refine wpAnyH_take (i := 33) (v := ?_) rfl (by kernel_rfl) (by kernel_rfl) (by kernel_rfl) (fun _ _ _ h => h) (Or.inl ⟨by kernel_rfl, ?_⟩) (by assumption) ?_
  rotate_left
  · (intro w hSw; (try dsimp only at hSw); go_simp; (try with_reducible rfl))
  try simp only [Act.put, List.getElem_toArray, List.getElem_cons_zero, List.getElem_cons_succ, List.setIfInBounds_toArray, List.set_cons_zero, List.set_cons_succ]
  refine wpAnyH_take (i := 34) (v := ?_) rfl (by kernel_rfl) (by kernel_rfl) (by kernel_rfl) (fun _ _ _ h => h) (Or.inl ⟨by kernel_rfl, ?_⟩) (by assumption) ?_
  rotate_left
  · (intro w hSw; (try dsimp only at hSw); go_simp; (try with_reducible rfl))
  try simp only [Act.put, List.getElem_toArray, List.getElem_cons_zero, List.getElem_cons_succ, List.setIfInBounds_toArray, List.set_cons_zero, List.set_cons_succ]
  refine wpAnyH_ready (rs := [35]) (by kernel_rfl) (by simp) (AllReadyH.cons rfl (fun K hK => ?_) AllReadyH.nil)
  go_simp
  go_at_call 7
  refine (H5.out _).mono ?_
  rintro e w' ⟨rfl, hb⟩
  obtain ⟨h0, h1, h2, h3, h4, h5, h6, h7, h8, h9, h10, h11, h12, h13, h14, h15, h16, h17, h18, h19⟩ := hHeld
  have hL1 := Lib.hid (Nat.le_trans hL0.out hb.size)
  have HB1 := Lib.hid (bstep HB.out hb)
  refine hK.out _ _ ⟨S_keep hL0.out hb K0.out h0, S_keep hL0.out hb K0.out h1, S_keep hL0.out hb K0.out h2, S_keep hL0.out hb K0.out h3, S_keep hL0.out hb K0.out h4, S_keep hL0.out hb K1.out h5, S_keep hL0.out hb K1.out h6, S_keep hL0.out hb K1.out h7, S_keep hL0.out hb K1.out h8, S_keep hL0.out hb K1.out h9, S_keep hL0.out hb K2.out h10, S_keep hL0.out hb K2.out h11, S_keep hL0.out hb K2.out h12, S_keep hL0.out hb K2.out h13, S_keep hL0.out hb K2.out h14, S_keep hL0.out hb K3.out h15, S_keep hL0.out hb K3.out h16, S_keep hL0.out hb K3.out h17, S_keep hL0.out hb K3.out h18, S_keep hL0.out hb K3.out h19⟩ (fun hHeld => ?_)
  clear hK K h0 h1 h2 h3 h4 h5 h6 h7 h8 h9 h10 h11 h12 h13 h14 h15 h16 h17 h18 h19 hb hL0 HB
  have hL0 := Lib.hid hL1.out
  have HB := Lib.hid HB1.out
  clear hL1 HB1
  try simp only [Act.put, List.getElem_toArray, List.getElem_cons_zero, List.getElem_cons_succ, List.setIfInBounds_toArray, List.set_cons_zero, List.set_cons_succ]
  refine wpAnyH_ready (rs := [36]) (by kernel_rfl) (by simp) (AllReadyH.cons rfl (fun K hK => ?_) AllReadyH.nil)
  go_simp
  go_at_call 9
  refine (H17.out _).mono ?_
  rintro e w' ⟨rfl, hb⟩
  obtain ⟨h0, h1, h2, h3, h4, h5, h6, h7, h8, h9, h10, h11, h12, h13, h14, h15, h16, h17, h18, h19⟩ := hHeld
  have hL1 := Lib.hid (Nat.le_trans hL0.out hb.size)
  have HB1 := Lib.hid (bstep HB.out hb)
  refine hK.out _ _ ⟨S_keep hL0.out hb K0.out h0, S_keep hL0.out hb K0.out h1, S_keep hL0.out hb K0.out h2, S_keep hL0.out hb K0.out h3, S_keep hL0.out hb K0.out h4, S_keep hL0.out hb K1.out h5, S_keep hL0.out hb K1.out h6, S_keep hL0.out hb K1.out h7, S_keep hL0.out hb K1.out h8, S_keep hL0.out hb K1.out h9, S_keep hL0.out hb K2.out h10, S_keep hL0.out hb K2.out h11, S_keep hL0.out hb K2.out h12, S_keep hL0.out hb K2.out h13, S_keep hL0.out hb K2.out h14, S_keep hL0.out hb K3.out h15, S_keep hL0.out hb K3.out h16, S_keep hL0.out hb K3.out h17, S_keep hL0.out hb K3.out h18, S_keep hL0.out hb K3.out h19⟩ (fun hHeld => ?_)
  clear hK K h0 h1 h2 h3 h4 h5 h6 h7 h8 h9 h10 h11 h12 h13 h14 h15 h16 h17 h18 h19 hb hL0 HB
  have hL0 := Lib.hid hL1.out
  have HB := Lib.hid HB1.out
  clear hL1 HB1
  try simp only [Act.put, List.getElem_toArray, List.getElem_cons_zero, List.getElem_cons_succ, List.setIfInBounds_toArray, List.set_cons_zero, List.set_cons_succ]
  refine wpAnyH_take (i := 37) (v := ?_) rfl (by kernel_rfl) (by kernel_rfl) (by kernel_rfl) (fun _ _ _ h => h) (Or.inl ⟨by kernel_rfl, ?_⟩) (by assumption) ?_
  rotate_left
  · (intro w hSw; (try dsimp only at hSw); go_simp; (try with_reducible rfl))
  try simp only [Act.put, List.getElem_toArray, List.getElem_cons_zero, List.getElem_cons_succ, List.setIfInBounds_toArray, List.set_cons_zero, List.set_cons_succ]
  refine wpAnyH_take (i := 38) (v := ?_) rfl (by kernel_rfl) (by kernel_rfl) (by kernel_rfl) (fun _ _ _ h => h) (Or.inl ⟨by kernel_rfl, ?_⟩) (by assumption) ?_
  rotate_left
  · (intro w hSw; (try dsimp only at hSw); go_simp; (try with_reducible rfl))
  try simp only [Act.put, List.getElem_toArray, List.getElem_cons_zero, List.getElem_cons_succ, List.setIfInBounds_toArray, List.set_cons_zero, List.set_cons_succ]
  refine wpAnyH_take (i := 39) (v := ?_) rfl (by kernel_rfl) (by kernel_rfl) (by kernel_rfl) (fun _ _ _ h => h) (Or.inl ⟨by kernel_rfl, ?_⟩) (by assumption) ?_
  rotate_left
  · (intro w hSw; (try dsimp only at hSw); go_simp; (try with_reducible rfl))
  try simp only [Act.put, List.getElem_toArray, List.getElem_cons_zero, List.getElem_cons_succ, List.setIfInBounds_toArray, List.set_cons_zero, List.set_cons_succ]
  refine wpAnyH_take (i := 40) (v := ?_) rfl (by kernel_rfl) (by kernel_rfl) (by kernel_rfl) (fun _ _ _ h => h) (Or.inl ⟨by kernel_rfl, ?_⟩) (by assumption) ?_
  rotate_left
  · (intro w hSw; (try dsimp only at hSw); go_simp; (try with_reducible rfl))
  try simp only [Act.put, List.getElem_toArray, List.getElem_cons_zero, List.getElem_cons_succ, List.setIfInBounds_toArray, List.set_cons_zero, List.set_cons_succ]
  refine wpAnyH_take (i := 41) (v := ?_) rfl (by kernel_rfl) (by kernel_rfl) (by kernel_rfl) (fun _ _ _ h => h) (Or.inl ⟨by kernel_rfl, ?_⟩) (by assumption) ?_
  rotate_left
  · (intro w hSw; (try dsimp only at hSw); go_simp; (try with_reducible rfl))
  try simp only [Act.put, List.getElem_toArray, List.getElem_cons_zero, List.getElem_cons_succ, List.setIfInBounds_toArray, List.set_cons_zero, List.set_cons_succ]
  refine wpAnyH_take (i := 42) (v := ?_) rfl (by kernel_rfl) (by kernel_rfl) (by kernel_rfl) (fun _ _ _ h => h) (Or.inl ⟨by kernel_rfl, ?_⟩) (by assumption) ?_
  rotate_left
  · (intro w hSw; (try dsimp only at hSw); go_simp; (try with_reducible rfl))
  try simp only [Act.put, List.getElem_toArray, List.getElem_cons_zero, List.getElem_cons_succ, List.setIfInBounds_toArray, List.set_cons_zero, List.set_cons_succ]
  refine wpAnyH_take (i := 43) (v := ?_) rfl (by kernel_rfl) (by kernel_rfl) (by kernel_rfl) (fun _ _ _ h => h) (Or.inl ⟨by kernel_rfl, ?_⟩) (by assumption) ?_
  rotate_left
  · (intro w hSw; (try dsimp only at hSw); go_simp; (try with_reducible rfl))
  try simp only [Act.put, List.getElem_toArray, List.getElem_cons_zero, List.getElem_cons_succ, List.setIfInBounds_toArray, List.set_cons_zero, List.set_cons_succ]
  refine wpAnyH_take (i := 45) (v := ?_) rfl (by kernel_rfl) (by kernel_rfl) (by kernel_rfl) (fun _ _ _ h => h) (Or.inl ⟨by kernel_rfl, ?_⟩) (by assumption) ?_
  rotate_left
  · (intro w hSw; (try dsimp only at hSw); go_simp; (try with_reducible rfl))
  try simp only [Act.put, List.getElem_toArray, List.getElem_cons_zero, List.getElem_cons_succ, List.setIfInBounds_toArray, List.set_cons_zero, List.set_cons_succ]
  refine wpAnyH_take (i := 46) (v := ?_) rfl (by kernel_rfl) (by kernel_rfl) (by kernel_rfl) (fun _ _ _ h => h) (Or.inl ⟨by kernel_rfl, ?_⟩) (by assumption) ?_
  rotate_left
  · (intro w hSw; (try dsimp only at hSw); go_simp; (try with_reducible rfl))
  try simp only [Act.put, List.getElem_toArray, List.getElem_cons_zero, List.getElem_cons_succ, List.setIfInBounds_toArray, List.set_cons_zero, List.set_cons_succ]
  refine wpAnyH_ready (rs := [44]) (by kernel_rfl) (by simp) (AllReadyH.cons rfl (fun K hK => ?_) AllReadyH.nil)
  go_simp
  go_at_call 5
  refine (H18.out _).mono ?_
  rintro e w' ⟨rfl, hb⟩
  obtain ⟨h0, h1, h2, h3, h4, h5, h6, h7, h8, h9, h10, h11, h12, h13, h14, h15, h16, h17, h18, h19⟩ := hHeld
  have hL1 := Lib.hid (Nat.le_trans hL0.out hb.size)
  have HB1 := Lib.hid (bstep HB.out hb)
  refine hK.out _ _ ⟨S_keep hL0.out hb K0.out h0, S_keep hL0.out hb K0.out h1, S_keep hL0.out hb K0.out h2, S_keep hL0.out hb K0.out h3, S_keep hL0.out hb K0.out h4, S_keep hL0.out hb K1.out h5, S_keep hL0.out hb K1.out h6, S_keep hL0.out hb K1.out h7, S_keep hL0.out hb K1.out h8, S_keep hL0.out hb K1.out h9, S_keep hL0.out hb K2.out h10, S_keep hL0.out hb K2.out h11, S_keep hL0.out hb K2.out h12, S_keep hL0.out hb K2.out h13, S_keep hL0.out hb K2.out h14, S_keep hL0.out hb K3.out h15, S_keep hL0.out hb K3.out h16, S_keep hL0.out hb K3.out h17, S_keep hL0.out hb K3.out h18, S_keep hL0.out hb K3.out h19⟩ (fun hHeld => ?_)
  clear hK K h0 h1 h2 h3 h4 h5 h6 h7 h8 h9 h10 h11 h12 h13 h14 h15 h16 h17 h18 h19 hb hL0 HB
  have hL0 := Lib.hid hL1.out
  have HB := Lib.hid HB1.out
  clear hL1 HB1
  try simp only [Act.put, List.getElem_toArray, List.getElem_cons_zero, List.getElem_cons_succ, List.setIfInBounds_toArray, List.set_cons_zero, List.set_cons_succ]
  refine wpAnyH_ready (rs := [47]) (by kernel_rfl) (by simp) (AllReadyH.cons rfl (fun K hK => ?_) AllReadyH.nil)
  go_simp
  go_at_call 5
  refine (H3.out _).mono ?_
  rintro e w' ⟨rfl, hb⟩
  obtain ⟨h0, h1, h2, h3, h4, h5, h6, h7, h8, h9, h10, h11, h12, h13, h14, h15, h16, h17, h18, h19⟩ := hHeld
  have hL1 := Lib.hid (Nat.le_trans hL0.out hb.size)
  have HB1 := Lib.hid (bstep HB.out hb)
  refine hK.out _ _ ⟨S_keep hL0.out hb K0.out h0, S_keep hL0.out hb K0.out h1, S_keep hL0.out hb K0.out h2, S_keep hL0.out hb K0.out h3, S_keep hL0.out hb K0.out h4, S_keep hL0.out hb K1.out h5, S_keep hL0.out hb K1.out h6, S_keep hL0.out hb K1.out h7, S_keep hL0.out hb K1.out h8, S_keep hL0.out hb K1.out h9, S_keep hL0.out hb K2.out h10, S_keep hL0.out hb K2.out h11, S_keep hL0.out hb K2.out h12, S_keep hL0.out hb K2.out h13, S_keep hL0.out hb K2.out h14, S_keep hL0.out hb K3.out h15, S_keep hL0.out hb K3.out h16, S_keep hL0.out hb K3.out h17, S_keep hL0.out hb K3.out h18, S_keep hL0.out hb K3.out h19⟩ (fun hHeld => ?_)
  clear hK K h0 h1 h2 h3 h4 h5 h6 h7 h8 h9 h10 h11 h12 h13 h14 h15 h16 h17 h18 h19 hb hL0 HB
  have hL0 := Lib.hid hL1.out
  have HB := Lib.hid HB1.out
  clear hL1 HB1
  try simp only [Act.put, List.getElem_toArray, List.getElem_cons_zero, List.getElem_cons_succ, List.setIfInBounds_toArray, List.set_cons_zero, List.set_cons_succ]
  refine wpAnyH_ready (rs := [48]) (by kernel_rfl) (by simp) (AllReadyH.cons rfl (fun K hK => ?_) AllReadyH.nil)
  go_simp
  go_at_call 9
  refine (H19.out _).mono ?_
  rintro e w' ⟨rfl, hb⟩
  obtain ⟨h0, h1, h2, h3, h4, h5, h6, h7, h8, h9, h10, h11, h12, h13, h14, h15, h16, h17, h18, h19⟩ := hHeld
  have hL1 := Lib.hid (Nat.le_trans hL0.out hb.size)
  have HB1 := Lib.hid (bstep HB.out hb)
  refine hK.out _ _ ⟨S_keep hL0.out hb K0.out h0, S_keep hL0.out hb K0.out h1, S_keep hL0.out hb K0.out h2, S_keep hL0.out hb K0.out h3, S_keep hL0.out hb K0.out h4, S_keep hL0.out hb K1.out h5, S_keep hL0.out hb K1.out h6, S_keep hL0.out hb K1.out h7, S_keep hL0.out hb K1.out h8, S_keep hL0.out hb K1.out h9, S_keep hL0.out hb K2.out h10, S_keep hL0.out hb K2.out h11, S_keep hL0.out hb K2.out h12, S_keep hL0.out hb K2.out h13, S_keep hL0.out hb K2.out h14, S_keep hL0.out hb K3.out h15, S_keep hL0.out hb K3.out h16, S_keep hL0.out hb K3.out h17, S_keep hL0.out hb K3.out h18, S_keep hL0.out hb K3.out h19⟩ (fun hHeld => ?_)
  clear hK K h0 h1 h2 h3 h4 h5 h6 h7 h8 h9 h10 h11 h12 h13 h14 h15 h16 h17 h18 h19 hb hL0 HB
  have hL0 := Lib.hid hL1.out
  have HB := Lib.hid HB1.out
  clear hL1 HB1
  try simp only [Act.put, List.getElem_toArray, List.getElem_cons_zero, List.getElem_cons_succ, List.setIfInBounds_toArray, List.set_cons_zero, List.set_cons_succ]
  refine wpAnyH_take (i := 49) (v := ?_) rfl (by kernel_rfl) (by kernel_rfl) (by kernel_rfl) (fun _ _ _ h => h) (Or.inl ⟨by kernel_rfl, ?_⟩) (by assumption) ?_
  rotate_left
  · (intro w hSw; (try dsimp only at hSw); go_simp; (try with_reducible rfl))
  try simp only [Act.put, List.getElem_toArray, List.getElem_cons_zero, List.getElem_cons_succ, List.setIfInBounds_toArray, List.set_cons_zero, List.set_cons_succ]
  refine wpAnyH_take (i := 50) (v := ?_) rfl (by kernel_rfl) (by kernel_rfl) (by kernel_rfl) (fun _ _ _ h => h) (Or.inl ⟨by kernel_rfl, ?_⟩) (by assumption) ?_
  rotate_left
  · (intro w hSw; (try dsimp only at hSw); go_simp; (try with_reducible rfl))
  try simp only [Act.put, List.getElem_toArray, List.getElem_cons_zero, List.getElem_cons_succ, List.setIfInBounds_toArray, List.set_cons_zero, List.set_cons_succ]
  refine wpAnyH_take (i := 51) (v := ?_) rfl (by kernel_rfl) (by kernel_rfl) (by kernel_rfl) (fun _ _ _ h => h) (Or.inl ⟨by kernel_rfl, ?_⟩) (by assumption) ?_
  rotate_left
  · (intro w hSw; (try dsimp only at hSw); go_simp; (try with_reducible rfl))
  try simp only [Act.put, List.getElem_toArray, List.getElem_cons_zero, List.getElem_cons_succ, List.setIfInBounds_toArray, List.set_cons_zero, List.set_cons_succ]
  have HS := hHeld
  refine wpAnyH_done (by kernel_rfl) ?_ _
  go_wp2_with fail
  go_ret
  exact ⟨rfl, HB.out⟩
end Go.Proofs.YtfjpbedcopdglaaGreatDoor
