/- The walk of FirstTwo, whatever the two firsts. -/
import Derived.Deep.RegionHeld3
import Derived.KernelRfl
import Derived.Test.YtfjpbedcopdglaaGreatDoorFirE
import Derived.Test.YtfjpbedcopdglaaGreatDoorFirT
namespace Go.Proofs.YtfjpbedcopdglaaGreatDoor
open Go.RowKit
set_option linter.unusedSimpArgs false
set_option linter.unusedVariables false

theorem rseq_any (x y : Fi) (hx : Fi.ok x) (hy : Fi.ok y) (w : World) : Calls Tryz.prog 6 #[x.v, y.v] w fun e w' => e = .returned (Fi.seq x y).v ∧ Below w.heap.size w w' := by
  obtain ⟨s, f⟩ := x; obtain ⟨t, g⟩ := y
  cases f
  · exact rseq0 s t g w
  · exact rseq1 s t hx hy g w
theorem rchoice_any (x y : Fi) (hx : Fi.ok x) (hy : Fi.ok y) (w : World) : Calls Tryz.prog 8 #[x.v, y.v] w fun e w' => e = .returned (Fi.cho x y).v ∧ Below w.heap.size w w' := by
  obtain ⟨s, f⟩ := x; obtain ⟨t, g⟩ := y
  cases f
  · exact rchoice0 s t hx hy g w
  · exact rchoice1 s t hx hy g w
theorem rwithin_all (x y : Fi) (hx : Fi.ok x) (hy : Fi.ok y) (w : World) : Calls Tryz.prog 10 #[x.v, y.v] w fun e w' => e = .returned (.bool (Fi.sub x y)) ∧ Below w.heap.size w w' := rwithin_any x.1 y.1 hx hy x.2 y.2 w

set_option maxRecDepth 100000 in
set_option maxHeartbeats 8000000 in
theorem two_walk0 (s t r1 c1 : S4) (f g b1 d1 p : Bool) (W : World)
    (haw : ∀ w, Below W.heap.size W w → Calls Tryz.prog 11 #[] w fun e w' => e = .returned (.bool true) ∧ Below w.heap.size w w')
    (H1 : Hid (∀ w, Calls Tryz.prog 5 #[fv s f, fv t g] w fun e w' => e = .returned (fv r1 b1) ∧ Below w.heap.size w w'))
    (H2 : Hid (∀ w, Calls Tryz.prog 6 #[fv s f, fv t g] w fun e w' => e = .returned (fv r1 b1) ∧ Below w.heap.size w w'))
    (H3 : Hid (∀ w, Calls Tryz.prog 7 #[fv s f, fv t g] w fun e w' => e = .returned (fv c1 d1) ∧ Below w.heap.size w w'))
    (H4 : Hid (∀ w, Calls Tryz.prog 8 #[fv s f, fv t g] w fun e w' => e = .returned (fv c1 d1) ∧ Below w.heap.size w w'))
    (H5 : Hid (∀ w, Calls Tryz.prog 9 #[fv s f, fv t g] w fun e w' => e = .returned (.bool p) ∧ Below w.heap.size w w'))
    (H6 : Hid (∀ w, Calls Tryz.prog 10 #[fv s f, fv t g] w fun e w' => e = .returned (.bool p) ∧ Below w.heap.size w w')) :
    Calls Tryz.prog 3 #[fv s f, fv t g] W fun e w' => e = .returned (.bool true) ∧ Below W.heap.size W w' := by
  have HAW := Lib.hid haw
  clear haw
  go_enter Tryz.func3, Tryz.ntmps3
  go_wp2_with fail
  go_region
  · have B0 : Box5 ((((W.alloc (.cells #[.int .u64 s.a, .int .u64 s.b, .int .u64 s.c, .int .u64 s.d, .bool f] 26)).alloc (.cells #[.int .u64 t.a, .int .u64 t.b, .int .u64 t.c, .int .u64 t.d, .bool g] 26)).alloc (.cells #[.int .u64 s.a, .int .u64 s.b, .int .u64 s.c, .int .u64 s.d, .bool f] 27)).alloc (.cells #[.int .u64 t.a, .int .u64 t.b, .int .u64 t.c, .int .u64 t.d, .bool g] 27)) W.heap.size s f := ((Box5.new W s f).alloc _ |>.alloc _).alloc _
    have B1 : Box5 ((((W.alloc (.cells #[.int .u64 s.a, .int .u64 s.b, .int .u64 s.c, .int .u64 s.d, .bool f] 26)).alloc (.cells #[.int .u64 t.a, .int .u64 t.b, .int .u64 t.c, .int .u64 t.d, .bool g] 26)).alloc (.cells #[.int .u64 s.a, .int .u64 s.b, .int .u64 s.c, .int .u64 s.d, .bool f] 27)).alloc (.cells #[.int .u64 t.a, .int .u64 t.b, .int .u64 t.c, .int .u64 t.d, .bool g] 27)) (W.heap.size + 1) t g := by have h := (Box5.new (W.alloc (.cells #[.int .u64 s.a, .int .u64 s.b, .int .u64 s.c, .int .u64 s.d, .bool f] 26)) t g).alloc (.cells #[.int .u64 s.a, .int .u64 s.b, .int .u64 s.c, .int .u64 s.d, .bool f] 27) |>.alloc (.cells #[.int .u64 t.a, .int .u64 t.b, .int .u64 t.c, .int .u64 t.d, .bool g] 27); simp only [World.size_alloc] at h; exact h
    have B2 : Box5r ((((W.alloc (.cells #[.int .u64 s.a, .int .u64 s.b, .int .u64 s.c, .int .u64 s.d, .bool f] 26)).alloc (.cells #[.int .u64 t.a, .int .u64 t.b, .int .u64 t.c, .int .u64 t.d, .bool g] 26)).alloc (.cells #[.int .u64 s.a, .int .u64 s.b, .int .u64 s.c, .int .u64 s.d, .bool f] 27)).alloc (.cells #[.int .u64 t.a, .int .u64 t.b, .int .u64 t.c, .int .u64 t.d, .bool g] 27)) (W.heap.size + 1 + 1) s f := by have h := (Box5r.new ((W.alloc (.cells #[.int .u64 s.a, .int .u64 s.b, .int .u64 s.c, .int .u64 s.d, .bool f] 26)).alloc (.cells #[.int .u64 t.a, .int .u64 t.b, .int .u64 t.c, .int .u64 t.d, .bool g] 26)) s f).alloc (.cells #[.int .u64 t.a, .int .u64 t.b, .int .u64 t.c, .int .u64 t.d, .bool g] 27); simp only [World.size_alloc] at h; exact h
    have B3 : Box5r ((((W.alloc (.cells #[.int .u64 s.a, .int .u64 s.b, .int .u64 s.c, .int .u64 s.d, .bool f] 26)).alloc (.cells #[.int .u64 t.a, .int .u64 t.b, .int .u64 t.c, .int .u64 t.d, .bool g] 26)).alloc (.cells #[.int .u64 s.a, .int .u64 s.b, .int .u64 s.c, .int .u64 s.d, .bool f] 27)).alloc (.cells #[.int .u64 t.a, .int .u64 t.b, .int .u64 t.c, .int .u64 t.d, .bool g] 27)) (W.heap.size + 1 + 1 + 1) t g := by have h := Box5r.new (((W.alloc (.cells #[.int .u64 s.a, .int .u64 s.b, .int .u64 s.c, .int .u64 s.d, .bool f] 26)).alloc (.cells #[.int .u64 t.a, .int .u64 t.b, .int .u64 t.c, .int .u64 t.d, .bool g] 26)).alloc (.cells #[.int .u64 s.a, .int .u64 s.b, .int .u64 s.c, .int .u64 s.d, .bool f] 27)) t g; simp only [World.size_alloc] at h; exact h
    have hL0 := Lib.hid (show W.heap.size + 4 ≤ ((((W.alloc (.cells #[.int .u64 s.a, .int .u64 s.b, .int .u64 s.c, .int .u64 s.d, .bool f] 26)).alloc (.cells #[.int .u64 t.a, .int .u64 t.b, .int .u64 t.c, .int .u64 t.d, .bool g] 26)).alloc (.cells #[.int .u64 s.a, .int .u64 s.b, .int .u64 s.c, .int .u64 s.d, .bool f] 27)).alloc (.cells #[.int .u64 t.a, .int .u64 t.b, .int .u64 t.c, .int .u64 t.d, .bool g] 27)).drew.heap.size by simp)
    have HB := Lib.hid (show Below W.heap.size W ((((W.alloc (.cells #[.int .u64 s.a, .int .u64 s.b, .int .u64 s.c, .int .u64 s.d, .bool f] 26)).alloc (.cells #[.int .u64 t.a, .int .u64 t.b, .int .u64 t.c, .int .u64 t.d, .bool g] 26)).alloc (.cells #[.int .u64 s.a, .int .u64 s.b, .int .u64 s.c, .int .u64 s.d, .bool f] 27)).alloc (.cells #[.int .u64 t.a, .int .u64 t.b, .int .u64 t.c, .int .u64 t.d, .bool g] 27)).drew from Below.drew (((((Below.refl _ W).alloc (Nat.le_refl _) _).alloc (by simp) _).alloc (by simp; omega) _).alloc (by simp; omega) _))
    obtain ⟨h0, h1, h2, h3, h4⟩ := B0.cells
    obtain ⟨h5, h6, h7, h8, h9⟩ := B1.cells
    obtain ⟨h10, h11, h12, h13, h14⟩ := B2.cells
    obtain ⟨h15, h16, h17, h18, h19⟩ := B3.cells
    have HS := (show (fun w' => w'.cell? ⟨W.heap.size, 0, none⟩ = some (.int .u64 s.a) ∧ w'.cell? ⟨W.heap.size, 1, none⟩ = some (.int .u64 s.b) ∧ w'.cell? ⟨W.heap.size, 2, none⟩ = some (.int .u64 s.c) ∧ w'.cell? ⟨W.heap.size, 3, none⟩ = some (.int .u64 s.d) ∧ w'.cell? ⟨W.heap.size, 4, none⟩ = some (.bool f) ∧ w'.cell? ⟨W.heap.size + 1, 0, none⟩ = some (.int .u64 t.a) ∧ w'.cell? ⟨W.heap.size + 1, 1, none⟩ = some (.int .u64 t.b) ∧ w'.cell? ⟨W.heap.size + 1, 2, none⟩ = some (.int .u64 t.c) ∧ w'.cell? ⟨W.heap.size + 1, 3, none⟩ = some (.int .u64 t.d) ∧ w'.cell? ⟨W.heap.size + 1, 4, none⟩ = some (.bool g) ∧ w'.cell? ⟨W.heap.size + 1 + 1, 0, none⟩ = some (.int .u64 s.a) ∧ w'.cell? ⟨W.heap.size + 1 + 1, 1, none⟩ = some (.int .u64 s.b) ∧ w'.cell? ⟨W.heap.size + 1 + 1, 2, none⟩ = some (.int .u64 s.c) ∧ w'.cell? ⟨W.heap.size + 1 + 1, 3, none⟩ = some (.int .u64 s.d) ∧ w'.cell? ⟨W.heap.size + 1 + 1, 4, none⟩ = some (.bool f) ∧ w'.cell? ⟨W.heap.size + 1 + 1 + 1, 0, none⟩ = some (.int .u64 t.a) ∧ w'.cell? ⟨W.heap.size + 1 + 1 + 1, 1, none⟩ = some (.int .u64 t.b) ∧ w'.cell? ⟨W.heap.size + 1 + 1 + 1, 2, none⟩ = some (.int .u64 t.c) ∧ w'.cell? ⟨W.heap.size + 1 + 1 + 1, 3, none⟩ = some (.int .u64 t.d) ∧ w'.cell? ⟨W.heap.size + 1 + 1 + 1, 4, none⟩ = some (.bool g)) ((((W.alloc (.cells #[.int .u64 s.a, .int .u64 s.b, .int .u64 s.c, .int .u64 s.d, .bool f] 26)).alloc (.cells #[.int .u64 t.a, .int .u64 t.b, .int .u64 t.c, .int .u64 t.d, .bool g] 26)).alloc (.cells #[.int .u64 s.a, .int .u64 s.b, .int .u64 s.c, .int .u64 s.d, .bool f] 27)).alloc (.cells #[.int .u64 t.a, .int .u64 t.b, .int .u64 t.c, .int .u64 t.d, .bool g] 27)).drew from ⟨h0, h1, h2, h3, h4, h5, h6, h7, h8, h9, h10, h11, h12, h13, h14, h15, h16, h17, h18, h19⟩)
    clear B0 B1 B2 B3 h0 h1 h2 h3 h4 h5 h6 h7 h8 h9 h10 h11 h12 h13 h14 h15 h16 h17 h18 h19
    have K0 := Lib.hid (show W.heap.size < W.heap.size + 4 by omega)
    have K1 := Lib.hid (show W.heap.size + 1 < W.heap.size + 4 by omega)
    have K2 := Lib.hid (show W.heap.size + 1 + 1 < W.heap.size + 4 by omega)
    have K3 := Lib.hid (show W.heap.size + 1 + 1 + 1 < W.heap.size + 4 by omega)
    go_wp2_with fail
    generalize ((((W.alloc (.cells #[.int .u64 s.a, .int .u64 s.b, .int .u64 s.c, .int .u64 s.d, .bool f] 26)).alloc (.cells #[.int .u64 t.a, .int .u64 t.b, .int .u64 t.c, .int .u64 t.d, .bool g] 26)).alloc (.cells #[.int .u64 s.a, .int .u64 s.b, .int .u64 s.c, .int .u64 s.d, .bool f] 27)).alloc (.cells #[.int .u64 t.a, .int .u64 t.b, .int .u64 t.c, .int .u64 t.d, .bool g] 27)).drew = W4 at HS hL0 HB ⊢
    refine wp_region_held_drew (S := (fun w' => w'.cell? ⟨W.heap.size, 0, none⟩ = some (.int .u64 s.a) ∧ w'.cell? ⟨W.heap.size, 1, none⟩ = some (.int .u64 s.b) ∧ w'.cell? ⟨W.heap.size, 2, none⟩ = some (.int .u64 s.c) ∧ w'.cell? ⟨W.heap.size, 3, none⟩ = some (.int .u64 s.d) ∧ w'.cell? ⟨W.heap.size, 4, none⟩ = some (.bool f) ∧ w'.cell? ⟨W.heap.size + 1, 0, none⟩ = some (.int .u64 t.a) ∧ w'.cell? ⟨W.heap.size + 1, 1, none⟩ = some (.int .u64 t.b) ∧ w'.cell? ⟨W.heap.size + 1, 2, none⟩ = some (.int .u64 t.c) ∧ w'.cell? ⟨W.heap.size + 1, 3, none⟩ = some (.int .u64 t.d) ∧ w'.cell? ⟨W.heap.size + 1, 4, none⟩ = some (.bool g) ∧ w'.cell? ⟨W.heap.size + 1 + 1, 0, none⟩ = some (.int .u64 s.a) ∧ w'.cell? ⟨W.heap.size + 1 + 1, 1, none⟩ = some (.int .u64 s.b) ∧ w'.cell? ⟨W.heap.size + 1 + 1, 2, none⟩ = some (.int .u64 s.c) ∧ w'.cell? ⟨W.heap.size + 1 + 1, 3, none⟩ = some (.int .u64 s.d) ∧ w'.cell? ⟨W.heap.size + 1 + 1, 4, none⟩ = some (.bool f) ∧ w'.cell? ⟨W.heap.size + 1 + 1 + 1, 0, none⟩ = some (.int .u64 t.a) ∧ w'.cell? ⟨W.heap.size + 1 + 1 + 1, 1, none⟩ = some (.int .u64 t.b) ∧ w'.cell? ⟨W.heap.size + 1 + 1 + 1, 2, none⟩ = some (.int .u64 t.c) ∧ w'.cell? ⟨W.heap.size + 1 + 1 + 1, 3, none⟩ = some (.int .u64 t.d) ∧ w'.cell? ⟨W.heap.size + 1 + 1 + 1, 4, none⟩ = some (.bool g))) (by kernel_rfl) HS (fun hHeld => ?_)
    clear HS
    have HBd := Lib.hid (HB.out).drew
    clear HB
    have HB := Lib.hid HBd.out
    clear HBd
    have hLd := Lib.hid (le_drew hL0.out)
    clear hL0
    have hL0 := Lib.hid hLd.out
    clear hLd
    refine wpAnyH_take (i := 0) (v := ?_) rfl (by kernel_rfl) (by kernel_rfl) (by kernel_rfl) (fun _ _ _ h => h) (Or.inl ⟨by kernel_rfl, ?_⟩) (by assumption) ?_
    rotate_left
    · (intro w hSw; (try dsimp only at hSw); go_simp; (try with_reducible rfl))
    try simp only [Act.put, List.getElem_toArray, List.getElem_cons_zero, List.getElem_cons_succ, List.setIfInBounds_toArray, List.set_cons_zero, List.set_cons_succ]
    refine wpAnyH_take (i := 1) (v := ?_) rfl (by kernel_rfl) (by kernel_rfl) (by kernel_rfl) (fun _ _ _ h => h) (Or.inl ⟨by kernel_rfl, ?_⟩) (by assumption) ?_
    rotate_left
    · (intro w hSw; (try dsimp only at hSw); go_simp; (try with_reducible rfl))
    try simp only [Act.put, List.getElem_toArray, List.getElem_cons_zero, List.getElem_cons_succ, List.setIfInBounds_toArray, List.set_cons_zero, List.set_cons_succ]
    refine wpAnyH_take (i := 3) (v := ?_) rfl (by kernel_rfl) (by kernel_rfl) (by kernel_rfl) (fun _ _ _ h => h) (Or.inl ⟨by kernel_rfl, ?_⟩) (by assumption) ?_
    rotate_left
    · (intro w hSw; (try dsimp only at hSw); go_simp; (try with_reducible rfl))
    try simp only [Act.put, List.getElem_toArray, List.getElem_cons_zero, List.getElem_cons_succ, List.setIfInBounds_toArray, List.set_cons_zero, List.set_cons_succ]
    refine wpAnyH_take (i := 4) (v := ?_) rfl (by kernel_rfl) (by kernel_rfl) (by kernel_rfl) (fun _ _ _ h => h) (Or.inl ⟨by kernel_rfl, ?_⟩) (by assumption) ?_
    rotate_left
    · (intro w hSw; (try dsimp only at hSw); go_simp; (try with_reducible rfl))
    try simp only [Act.put, List.getElem_toArray, List.getElem_cons_zero, List.getElem_cons_succ, List.setIfInBounds_toArray, List.set_cons_zero, List.set_cons_succ]
    refine wpAnyH_ready (rs := [2]) (by kernel_rfl) (by simp) (AllReadyH.cons rfl (fun K hK => ?_) AllReadyH.nil)
    go_simp
    go_at_call 5
    refine (H1.out _).mono ?_
    rintro e w' ⟨rfl, hb⟩
    obtain ⟨h0, h1, h2, h3, h4, h5, h6, h7, h8, h9, h10, h11, h12, h13, h14, h15, h16, h17, h18, h19⟩ := hHeld
    have hL1 := Lib.hid (Nat.le_trans hL0.out hb.size)
    have HB1 := Lib.hid (bstep HB.out hb)
    refine hK.out _ _ ⟨S_keep hL0.out hb K0.out h0, S_keep hL0.out hb K0.out h1, S_keep hL0.out hb K0.out h2, S_keep hL0.out hb K0.out h3, S_keep hL0.out hb K0.out h4, S_keep hL0.out hb K1.out h5, S_keep hL0.out hb K1.out h6, S_keep hL0.out hb K1.out h7, S_keep hL0.out hb K1.out h8, S_keep hL0.out hb K1.out h9, S_keep hL0.out hb K2.out h10, S_keep hL0.out hb K2.out h11, S_keep hL0.out hb K2.out h12, S_keep hL0.out hb K2.out h13, S_keep hL0.out hb K2.out h14, S_keep hL0.out hb K3.out h15, S_keep hL0.out hb K3.out h16, S_keep hL0.out hb K3.out h17, S_keep hL0.out hb K3.out h18, S_keep hL0.out hb K3.out h19⟩ (fun hHeld => ?_)
    clear hK K h0 h1 h2 h3 h4 h5 h6 h7 h8 h9 h10 h11 h12 h13 h14 h15 h16 h17 h18 h19 hb hL0 HB
    have hL0 := Lib.hid hL1.out
    have HB := Lib.hid HB1.out
    clear hL1 HB1
    try simp only [Act.put, List.getElem_toArray, List.getElem_cons_zero, List.getElem_cons_succ, List.setIfInBounds_toArray, List.set_cons_zero, List.set_cons_succ]
    refine wpAnyH_ready (rs := [5]) (by kernel_rfl) (by simp) (AllReadyH.cons rfl (fun K hK => ?_) AllReadyH.nil)
    go_simp
    go_at_call 6
    refine (H2.out _).mono ?_
    rintro e w' ⟨rfl, hb⟩
    obtain ⟨h0, h1, h2, h3, h4, h5, h6, h7, h8, h9, h10, h11, h12, h13, h14, h15, h16, h17, h18, h19⟩ := hHeld
    have hL1 := Lib.hid (Nat.le_trans hL0.out hb.size)
    have HB1 := Lib.hid (bstep HB.out hb)
    refine hK.out _ _ ⟨S_keep hL0.out hb K0.out h0, S_keep hL0.out hb K0.out h1, S_keep hL0.out hb K0.out h2, S_keep hL0.out hb K0.out h3, S_keep hL0.out hb K0.out h4, S_keep hL0.out hb K1.out h5, S_keep hL0.out hb K1.out h6, S_keep hL0.out hb K1.out h7, S_keep hL0.out hb K1.out h8, S_keep hL0.out hb K1.out h9, S_keep hL0.out hb K2.out h10, S_keep hL0.out hb K2.out h11, S_keep hL0.out hb K2.out h12, S_keep hL0.out hb K2.out h13, S_keep hL0.out hb K2.out h14, S_keep hL0.out hb K3.out h15, S_keep hL0.out hb K3.out h16, S_keep hL0.out hb K3.out h17, S_keep hL0.out hb K3.out h18, S_keep hL0.out hb K3.out h19⟩ (fun hHeld => ?_)
    clear hK K h0 h1 h2 h3 h4 h5 h6 h7 h8 h9 h10 h11 h12 h13 h14 h15 h16 h17 h18 h19 hb hL0 HB
    have hL0 := Lib.hid hL1.out
    have HB := Lib.hid HB1.out
    clear hL1 HB1
    try simp only [Act.put, List.getElem_toArray, List.getElem_cons_zero, List.getElem_cons_succ, List.setIfInBounds_toArray, List.set_cons_zero, List.set_cons_succ]
    refine wpAnyH_take (i := 6) (v := ?_) rfl (by kernel_rfl) (by kernel_rfl) (by kernel_rfl) (fun _ _ _ h => h) (Or.inl ⟨by kernel_rfl, ?_⟩) (by assumption) ?_
    rotate_left
    · (intro w hSw; (try dsimp only at hSw); go_simp; (try with_reducible rfl))
    try simp only [Act.put, List.getElem_toArray, List.getElem_cons_zero, List.getElem_cons_succ, List.setIfInBounds_toArray, List.set_cons_zero, List.set_cons_succ]
    refine wpAnyH_take (i := 7) (v := ?_) rfl (by kernel_rfl) (by kernel_rfl) (by kernel_rfl) (fun _ _ _ h => h) (Or.inl ⟨by kernel_rfl, ?_⟩) (by assumption) ?_
    rotate_left
    · (intro w hSw; (try dsimp only at hSw); go_simp; (try with_reducible rfl))
    try simp only [Act.put, List.getElem_toArray, List.getElem_cons_zero, List.getElem_cons_succ, List.setIfInBounds_toArray, List.set_cons_zero, List.set_cons_succ]
    refine wpAnyH_take (i := 8) (v := ?_) rfl (by kernel_rfl) (by kernel_rfl) (by kernel_rfl) (fun _ _ _ h => h) (Or.inl ⟨by kernel_rfl, ?_⟩) (by assumption) ?_
    rotate_left
    · (intro w hSw; (try dsimp only at hSw); go_simp; (try with_reducible rfl))
    try simp only [Act.put, List.getElem_toArray, List.getElem_cons_zero, List.getElem_cons_succ, List.setIfInBounds_toArray, List.set_cons_zero, List.set_cons_succ]
    refine wpAnyH_take (i := 9) (v := ?_) rfl (by kernel_rfl) (by kernel_rfl) (by kernel_rfl) (fun _ _ _ h => h) (Or.inl ⟨by kernel_rfl, ?_⟩) (by assumption) ?_
    rotate_left
    · (intro w hSw; (try dsimp only at hSw); go_simp; (try with_reducible rfl))
    try simp only [Act.put, List.getElem_toArray, List.getElem_cons_zero, List.getElem_cons_succ, List.setIfInBounds_toArray, List.set_cons_zero, List.set_cons_succ]
    refine wpAnyH_take (i := 11) (v := ?_) rfl (by kernel_rfl) (by kernel_rfl) (by kernel_rfl) (fun _ _ _ h => h) (Or.inl ⟨by kernel_rfl, ?_⟩) (by assumption) ?_
    rotate_left
    · (intro w hSw; (try dsimp only at hSw); go_simp; (try with_reducible rfl))
    try simp only [Act.put, List.getElem_toArray, List.getElem_cons_zero, List.getElem_cons_succ, List.setIfInBounds_toArray, List.set_cons_zero, List.set_cons_succ]
    refine wpAnyH_take (i := 12) (v := ?_) rfl (by kernel_rfl) (by kernel_rfl) (by kernel_rfl) (fun _ _ _ h => h) (Or.inl ⟨by kernel_rfl, ?_⟩) (by assumption) ?_
    rotate_left
    · (intro w hSw; (try dsimp only at hSw); go_simp; (try with_reducible rfl))
    try simp only [Act.put, List.getElem_toArray, List.getElem_cons_zero, List.getElem_cons_succ, List.setIfInBounds_toArray, List.set_cons_zero, List.set_cons_succ]
    refine wpAnyH_ready (rs := [10]) (by kernel_rfl) (by simp) (AllReadyH.cons rfl (fun K hK => ?_) AllReadyH.nil)
    go_simp
    go_at_call 7
    refine (H3.out _).mono ?_
    rintro e w' ⟨rfl, hb⟩
    obtain ⟨h0, h1, h2, h3, h4, h5, h6, h7, h8, h9, h10, h11, h12, h13, h14, h15, h16, h17, h18, h19⟩ := hHeld
    have hL1 := Lib.hid (Nat.le_trans hL0.out hb.size)
    have HB1 := Lib.hid (bstep HB.out hb)
    refine hK.out _ _ ⟨S_keep hL0.out hb K0.out h0, S_keep hL0.out hb K0.out h1, S_keep hL0.out hb K0.out h2, S_keep hL0.out hb K0.out h3, S_keep hL0.out hb K0.out h4, S_keep hL0.out hb K1.out h5, S_keep hL0.out hb K1.out h6, S_keep hL0.out hb K1.out h7, S_keep hL0.out hb K1.out h8, S_keep hL0.out hb K1.out h9, S_keep hL0.out hb K2.out h10, S_keep hL0.out hb K2.out h11, S_keep hL0.out hb K2.out h12, S_keep hL0.out hb K2.out h13, S_keep hL0.out hb K2.out h14, S_keep hL0.out hb K3.out h15, S_keep hL0.out hb K3.out h16, S_keep hL0.out hb K3.out h17, S_keep hL0.out hb K3.out h18, S_keep hL0.out hb K3.out h19⟩ (fun hHeld => ?_)
    clear hK K h0 h1 h2 h3 h4 h5 h6 h7 h8 h9 h10 h11 h12 h13 h14 h15 h16 h17 h18 h19 hb hL0 HB
    have hL0 := Lib.hid hL1.out
    have HB := Lib.hid HB1.out
    clear hL1 HB1
    try simp only [Act.put, List.getElem_toArray, List.getElem_cons_zero, List.getElem_cons_succ, List.setIfInBounds_toArray, List.set_cons_zero, List.set_cons_succ]
    refine wpAnyH_ready (rs := [13]) (by kernel_rfl) (by simp) (AllReadyH.cons rfl (fun K hK => ?_) AllReadyH.nil)
    go_simp
    go_at_call 8
    refine (H4.out _).mono ?_
    rintro e w' ⟨rfl, hb⟩
    obtain ⟨h0, h1, h2, h3, h4, h5, h6, h7, h8, h9, h10, h11, h12, h13, h14, h15, h16, h17, h18, h19⟩ := hHeld
    have hL1 := Lib.hid (Nat.le_trans hL0.out hb.size)
    have HB1 := Lib.hid (bstep HB.out hb)
    refine hK.out _ _ ⟨S_keep hL0.out hb K0.out h0, S_keep hL0.out hb K0.out h1, S_keep hL0.out hb K0.out h2, S_keep hL0.out hb K0.out h3, S_keep hL0.out hb K0.out h4, S_keep hL0.out hb K1.out h5, S_keep hL0.out hb K1.out h6, S_keep hL0.out hb K1.out h7, S_keep hL0.out hb K1.out h8, S_keep hL0.out hb K1.out h9, S_keep hL0.out hb K2.out h10, S_keep hL0.out hb K2.out h11, S_keep hL0.out hb K2.out h12, S_keep hL0.out hb K2.out h13, S_keep hL0.out hb K2.out h14, S_keep hL0.out hb K3.out h15, S_keep hL0.out hb K3.out h16, S_keep hL0.out hb K3.out h17, S_keep hL0.out hb K3.out h18, S_keep hL0.out hb K3.out h19⟩ (fun hHeld => ?_)
    clear hK K h0 h1 h2 h3 h4 h5 h6 h7 h8 h9 h10 h11 h12 h13 h14 h15 h16 h17 h18 h19 hb hL0 HB
    have hL0 := Lib.hid hL1.out
    have HB := Lib.hid HB1.out
    clear hL1 HB1
    try simp only [Act.put, List.getElem_toArray, List.getElem_cons_zero, List.getElem_cons_succ, List.setIfInBounds_toArray, List.set_cons_zero, List.set_cons_succ]
    refine wpAnyH_take (i := 14) (v := ?_) rfl (by kernel_rfl) (by kernel_rfl) (by kernel_rfl) (fun _ _ _ h => h) (Or.inl ⟨by kernel_rfl, ?_⟩) (by assumption) ?_
    rotate_left
    · (intro w hSw; (try dsimp only at hSw); go_simp; (try with_reducible rfl))
    try simp only [Act.put, List.getElem_toArray, List.getElem_cons_zero, List.getElem_cons_succ, List.setIfInBounds_toArray, List.set_cons_zero, List.set_cons_succ]
    refine wpAnyH_take (i := 15) (v := ?_) rfl (by kernel_rfl) (by kernel_rfl) (by kernel_rfl) (fun _ _ _ h => h) (Or.inl ⟨by kernel_rfl, ?_⟩) (by assumption) ?_
    rotate_left
    · (intro w hSw; (try dsimp only at hSw); go_simp; (try with_reducible rfl))
    try simp only [Act.put, List.getElem_toArray, List.getElem_cons_zero, List.getElem_cons_succ, List.setIfInBounds_toArray, List.set_cons_zero, List.set_cons_succ]
    refine wpAnyH_take (i := 16) (v := ?_) rfl (by kernel_rfl) (by kernel_rfl) (by kernel_rfl) (fun _ _ _ h => h) (Or.inl ⟨by kernel_rfl, ?_⟩) (by assumption) ?_
    rotate_left
    · (intro w hSw; (try dsimp only at hSw); go_simp; (try with_reducible rfl))
    try simp only [Act.put, List.getElem_toArray, List.getElem_cons_zero, List.getElem_cons_succ, List.setIfInBounds_toArray, List.set_cons_zero, List.set_cons_succ]
    refine wpAnyH_take (i := 17) (v := ?_) rfl (by kernel_rfl) (by kernel_rfl) (by kernel_rfl) (fun _ _ _ h => h) (Or.inl ⟨by kernel_rfl, ?_⟩) (by assumption) ?_
    rotate_left
    · (intro w hSw; (try dsimp only at hSw); go_simp; (try with_reducible rfl))
    try simp only [Act.put, List.getElem_toArray, List.getElem_cons_zero, List.getElem_cons_succ, List.setIfInBounds_toArray, List.set_cons_zero, List.set_cons_succ]
    refine wpAnyH_take (i := 18) (v := ?_) rfl (by kernel_rfl) (by kernel_rfl) (by kernel_rfl) (fun _ _ _ h => h) (Or.inl ⟨by kernel_rfl, ?_⟩) (by assumption) ?_
    rotate_left
    · (intro w hSw; (try dsimp only at hSw); go_simp; (try with_reducible rfl))
    try simp only [Act.put, List.getElem_toArray, List.getElem_cons_zero, List.getElem_cons_succ, List.setIfInBounds_toArray, List.set_cons_zero, List.set_cons_succ]
    refine wpAnyH_take (i := 20) (v := ?_) rfl (by kernel_rfl) (by kernel_rfl) (by kernel_rfl) (fun _ _ _ h => h) (Or.inl ⟨by kernel_rfl, ?_⟩) (by assumption) ?_
    rotate_left
    · (intro w hSw; (try dsimp only at hSw); go_simp; (try with_reducible rfl))
    try simp only [Act.put, List.getElem_toArray, List.getElem_cons_zero, List.getElem_cons_succ, List.setIfInBounds_toArray, List.set_cons_zero, List.set_cons_succ]
    refine wpAnyH_take (i := 21) (v := ?_) rfl (by kernel_rfl) (by kernel_rfl) (by kernel_rfl) (fun _ _ _ h => h) (Or.inl ⟨by kernel_rfl, ?_⟩) (by assumption) ?_
    rotate_left
    · (intro w hSw; (try dsimp only at hSw); go_simp; (try with_reducible rfl))
    try simp only [Act.put, List.getElem_toArray, List.getElem_cons_zero, List.getElem_cons_succ, List.setIfInBounds_toArray, List.set_cons_zero, List.set_cons_succ]
    refine wpAnyH_ready (rs := [19]) (by kernel_rfl) (by simp) (AllReadyH.cons rfl (fun K hK => ?_) AllReadyH.nil)
    go_simp
    go_at_call 9
    refine (H5.out _).mono ?_
    rintro e w' ⟨rfl, hb⟩
    obtain ⟨h0, h1, h2, h3, h4, h5, h6, h7, h8, h9, h10, h11, h12, h13, h14, h15, h16, h17, h18, h19⟩ := hHeld
    have hL1 := Lib.hid (Nat.le_trans hL0.out hb.size)
    have HB1 := Lib.hid (bstep HB.out hb)
    refine hK.out _ _ ⟨S_keep hL0.out hb K0.out h0, S_keep hL0.out hb K0.out h1, S_keep hL0.out hb K0.out h2, S_keep hL0.out hb K0.out h3, S_keep hL0.out hb K0.out h4, S_keep hL0.out hb K1.out h5, S_keep hL0.out hb K1.out h6, S_keep hL0.out hb K1.out h7, S_keep hL0.out hb K1.out h8, S_keep hL0.out hb K1.out h9, S_keep hL0.out hb K2.out h10, S_keep hL0.out hb K2.out h11, S_keep hL0.out hb K2.out h12, S_keep hL0.out hb K2.out h13, S_keep hL0.out hb K2.out h14, S_keep hL0.out hb K3.out h15, S_keep hL0.out hb K3.out h16, S_keep hL0.out hb K3.out h17, S_keep hL0.out hb K3.out h18, S_keep hL0.out hb K3.out h19⟩ (fun hHeld => ?_)
    clear hK K h0 h1 h2 h3 h4 h5 h6 h7 h8 h9 h10 h11 h12 h13 h14 h15 h16 h17 h18 h19 hb hL0 HB
    have hL0 := Lib.hid hL1.out
    have HB := Lib.hid HB1.out
    clear hL1 HB1
    try simp only [Act.put, List.getElem_toArray, List.getElem_cons_zero, List.getElem_cons_succ, List.setIfInBounds_toArray, List.set_cons_zero, List.set_cons_succ]
    refine wpAnyH_ready (rs := [22]) (by kernel_rfl) (by simp) (AllReadyH.cons rfl (fun K hK => ?_) AllReadyH.nil)
    go_simp
    go_at_call 10
    refine (H6.out _).mono ?_
    rintro e w' ⟨rfl, hb⟩
    obtain ⟨h0, h1, h2, h3, h4, h5, h6, h7, h8, h9, h10, h11, h12, h13, h14, h15, h16, h17, h18, h19⟩ := hHeld
    have hL1 := Lib.hid (Nat.le_trans hL0.out hb.size)
    have HB1 := Lib.hid (bstep HB.out hb)
    refine hK.out _ _ ⟨S_keep hL0.out hb K0.out h0, S_keep hL0.out hb K0.out h1, S_keep hL0.out hb K0.out h2, S_keep hL0.out hb K0.out h3, S_keep hL0.out hb K0.out h4, S_keep hL0.out hb K1.out h5, S_keep hL0.out hb K1.out h6, S_keep hL0.out hb K1.out h7, S_keep hL0.out hb K1.out h8, S_keep hL0.out hb K1.out h9, S_keep hL0.out hb K2.out h10, S_keep hL0.out hb K2.out h11, S_keep hL0.out hb K2.out h12, S_keep hL0.out hb K2.out h13, S_keep hL0.out hb K2.out h14, S_keep hL0.out hb K3.out h15, S_keep hL0.out hb K3.out h16, S_keep hL0.out hb K3.out h17, S_keep hL0.out hb K3.out h18, S_keep hL0.out hb K3.out h19⟩ (fun hHeld => ?_)
    clear hK K h0 h1 h2 h3 h4 h5 h6 h7 h8 h9 h10 h11 h12 h13 h14 h15 h16 h17 h18 h19 hb hL0 HB
    have hL0 := Lib.hid hL1.out
    have HB := Lib.hid HB1.out
    clear hL1 HB1
    try simp only [Act.put, List.getElem_toArray, List.getElem_cons_zero, List.getElem_cons_succ, List.setIfInBounds_toArray, List.set_cons_zero, List.set_cons_succ]
    refine wpAnyH_take (i := 23) (v := ?_) rfl (by kernel_rfl) (by kernel_rfl) (by kernel_rfl) (fun _ _ _ h => h) (Or.inl ⟨by kernel_rfl, ?_⟩) (by assumption) ?_
    rotate_left
    · (intro w hSw; (try dsimp only at hSw); go_simp; (try with_reducible rfl))
    try simp only [Act.put, List.getElem_toArray, List.getElem_cons_zero, List.getElem_cons_succ, List.setIfInBounds_toArray, List.set_cons_zero, List.set_cons_succ]
    refine wpAnyH_take (i := 24) (v := ?_) rfl (by kernel_rfl) (by kernel_rfl) (by kernel_rfl) (fun _ _ _ h => h) (Or.inl ⟨by kernel_rfl, ?_⟩) (by assumption) ?_
    rotate_left
    · (intro w hSw; (try dsimp only at hSw); go_simp; (try with_reducible rfl))
    try simp only [Act.put, List.getElem_toArray, List.getElem_cons_zero, List.getElem_cons_succ, List.setIfInBounds_toArray, List.set_cons_zero, List.set_cons_succ]
    refine wpAnyH_take (i := 25) (v := ?_) rfl (by kernel_rfl) (by kernel_rfl) (by kernel_rfl) (fun _ _ _ h => h) (Or.inl ⟨by kernel_rfl, ?_⟩) (by assumption) ?_
    rotate_left
    · (intro w hSw; (try dsimp only at hSw); go_simp; (try with_reducible rfl))
    try simp only [Act.put, List.getElem_toArray, List.getElem_cons_zero, List.getElem_cons_succ, List.setIfInBounds_toArray, List.set_cons_zero, List.set_cons_succ]
    refine wpAnyH_ready (rs := [26]) (by kernel_rfl) (by simp) (AllReadyH.cons rfl (fun K hK => ?_) AllReadyH.nil)
    go_simp
    go_at_call 11
    refine (HAW.out _ HB.out).mono ?_
    rintro e w' ⟨rfl, hb⟩
    obtain ⟨h0, h1, h2, h3, h4, h5, h6, h7, h8, h9, h10, h11, h12, h13, h14, h15, h16, h17, h18, h19⟩ := hHeld
    have hL1 := Lib.hid (Nat.le_trans hL0.out hb.size)
    have HB1 := Lib.hid (bstep HB.out hb)
    refine hK.out _ _ ⟨S_keep hL0.out hb K0.out h0, S_keep hL0.out hb K0.out h1, S_keep hL0.out hb K0.out h2, S_keep hL0.out hb K0.out h3, S_keep hL0.out hb K0.out h4, S_keep hL0.out hb K1.out h5, S_keep hL0.out hb K1.out h6, S_keep hL0.out hb K1.out h7, S_keep hL0.out hb K1.out h8, S_keep hL0.out hb K1.out h9, S_keep hL0.out hb K2.out h10, S_keep hL0.out hb K2.out h11, S_keep hL0.out hb K2.out h12, S_keep hL0.out hb K2.out h13, S_keep hL0.out hb K2.out h14, S_keep hL0.out hb K3.out h15, S_keep hL0.out hb K3.out h16, S_keep hL0.out hb K3.out h17, S_keep hL0.out hb K3.out h18, S_keep hL0.out hb K3.out h19⟩ (fun hHeld => ?_)
    clear hK K h0 h1 h2 h3 h4 h5 h6 h7 h8 h9 h10 h11 h12 h13 h14 h15 h16 h17 h18 h19 hb hL0 HB
    have hL0 := Lib.hid hL1.out
    have HB := Lib.hid HB1.out
    clear hL1 HB1
    try simp only [Act.put, List.getElem_toArray, List.getElem_cons_zero, List.getElem_cons_succ, List.setIfInBounds_toArray, List.set_cons_zero, List.set_cons_succ]
    refine wpAnyH_take (i := 27) (v := ?_) rfl (by kernel_rfl) (by kernel_rfl) (by kernel_rfl) (fun _ _ _ h => h) (Or.inl ⟨by kernel_rfl, ?_⟩) (by assumption) ?_
    rotate_left
    · (intro w hSw; (try dsimp only at hSw); go_simp; (try with_reducible rfl))
    try simp only [Act.put, List.getElem_toArray, List.getElem_cons_zero, List.getElem_cons_succ, List.setIfInBounds_toArray, List.set_cons_zero, List.set_cons_succ]
    refine wpAnyH_take (i := 28) (v := ?_) rfl (by kernel_rfl) (by kernel_rfl) (by kernel_rfl) (fun _ _ _ h => h) (Or.inl ⟨by kernel_rfl, ?_⟩) (by assumption) ?_
    rotate_left
    · (intro w hSw; (try dsimp only at hSw); go_simp; (try with_reducible rfl))
    try simp only [Act.put, List.getElem_toArray, List.getElem_cons_zero, List.getElem_cons_succ, List.setIfInBounds_toArray, List.set_cons_zero, List.set_cons_succ]
    refine wpAnyH_done (by kernel_rfl) ?_ _
    go_wp2_with fail
    go_ret
    exact ⟨rfl, HB.out⟩
  · have B0 : Box5 ((((W.alloc (.cells #[.int .u64 s.a, .int .u64 s.b, .int .u64 s.c, .int .u64 s.d, .bool f] 26)).alloc (.cells #[.int .u64 t.a, .int .u64 t.b, .int .u64 t.c, .int .u64 t.d, .bool g] 26)).alloc (.cells #[.int .u64 t.a, .int .u64 t.b, .int .u64 t.c, .int .u64 t.d, .bool g] 27)).alloc (.cells #[.int .u64 s.a, .int .u64 s.b, .int .u64 s.c, .int .u64 s.d, .bool f] 27)) W.heap.size s f := ((Box5.new W s f).alloc _ |>.alloc _).alloc _
    have B1 : Box5 ((((W.alloc (.cells #[.int .u64 s.a, .int .u64 s.b, .int .u64 s.c, .int .u64 s.d, .bool f] 26)).alloc (.cells #[.int .u64 t.a, .int .u64 t.b, .int .u64 t.c, .int .u64 t.d, .bool g] 26)).alloc (.cells #[.int .u64 t.a, .int .u64 t.b, .int .u64 t.c, .int .u64 t.d, .bool g] 27)).alloc (.cells #[.int .u64 s.a, .int .u64 s.b, .int .u64 s.c, .int .u64 s.d, .bool f] 27)) (W.heap.size + 1) t g := by have h := (Box5.new (W.alloc (.cells #[.int .u64 s.a, .int .u64 s.b, .int .u64 s.c, .int .u64 s.d, .bool f] 26)) t g).alloc (.cells #[.int .u64 t.a, .int .u64 t.b, .int .u64 t.c, .int .u64 t.d, .bool g] 27) |>.alloc (.cells #[.int .u64 s.a, .int .u64 s.b, .int .u64 s.c, .int .u64 s.d, .bool f] 27); simp only [World.size_alloc] at h; exact h
    have B2 : Box5r ((((W.alloc (.cells #[.int .u64 s.a, .int .u64 s.b, .int .u64 s.c, .int .u64 s.d, .bool f] 26)).alloc (.cells #[.int .u64 t.a, .int .u64 t.b, .int .u64 t.c, .int .u64 t.d, .bool g] 26)).alloc (.cells #[.int .u64 t.a, .int .u64 t.b, .int .u64 t.c, .int .u64 t.d, .bool g] 27)).alloc (.cells #[.int .u64 s.a, .int .u64 s.b, .int .u64 s.c, .int .u64 s.d, .bool f] 27)) (W.heap.size + 1 + 1) t g := by have h := (Box5r.new ((W.alloc (.cells #[.int .u64 s.a, .int .u64 s.b, .int .u64 s.c, .int .u64 s.d, .bool f] 26)).alloc (.cells #[.int .u64 t.a, .int .u64 t.b, .int .u64 t.c, .int .u64 t.d, .bool g] 26)) t g).alloc (.cells #[.int .u64 s.a, .int .u64 s.b, .int .u64 s.c, .int .u64 s.d, .bool f] 27); simp only [World.size_alloc] at h; exact h
    have B3 : Box5r ((((W.alloc (.cells #[.int .u64 s.a, .int .u64 s.b, .int .u64 s.c, .int .u64 s.d, .bool f] 26)).alloc (.cells #[.int .u64 t.a, .int .u64 t.b, .int .u64 t.c, .int .u64 t.d, .bool g] 26)).alloc (.cells #[.int .u64 t.a, .int .u64 t.b, .int .u64 t.c, .int .u64 t.d, .bool g] 27)).alloc (.cells #[.int .u64 s.a, .int .u64 s.b, .int .u64 s.c, .int .u64 s.d, .bool f] 27)) (W.heap.size + 1 + 1 + 1) s f := by have h := Box5r.new (((W.alloc (.cells #[.int .u64 s.a, .int .u64 s.b, .int .u64 s.c, .int .u64 s.d, .bool f] 26)).alloc (.cells #[.int .u64 t.a, .int .u64 t.b, .int .u64 t.c, .int .u64 t.d, .bool g] 26)).alloc (.cells #[.int .u64 t.a, .int .u64 t.b, .int .u64 t.c, .int .u64 t.d, .bool g] 27)) s f; simp only [World.size_alloc] at h; exact h
    have hL0 := Lib.hid (show W.heap.size + 4 ≤ ((((W.alloc (.cells #[.int .u64 s.a, .int .u64 s.b, .int .u64 s.c, .int .u64 s.d, .bool f] 26)).alloc (.cells #[.int .u64 t.a, .int .u64 t.b, .int .u64 t.c, .int .u64 t.d, .bool g] 26)).alloc (.cells #[.int .u64 t.a, .int .u64 t.b, .int .u64 t.c, .int .u64 t.d, .bool g] 27)).alloc (.cells #[.int .u64 s.a, .int .u64 s.b, .int .u64 s.c, .int .u64 s.d, .bool f] 27)).drew.heap.size by simp)
    have HB := Lib.hid (show Below W.heap.size W ((((W.alloc (.cells #[.int .u64 s.a, .int .u64 s.b, .int .u64 s.c, .int .u64 s.d, .bool f] 26)).alloc (.cells #[.int .u64 t.a, .int .u64 t.b, .int .u64 t.c, .int .u64 t.d, .bool g] 26)).alloc (.cells #[.int .u64 t.a, .int .u64 t.b, .int .u64 t.c, .int .u64 t.d, .bool g] 27)).alloc (.cells #[.int .u64 s.a, .int .u64 s.b, .int .u64 s.c, .int .u64 s.d, .bool f] 27)).drew from Below.drew (((((Below.refl _ W).alloc (Nat.le_refl _) _).alloc (by simp) _).alloc (by simp; omega) _).alloc (by simp; omega) _))
    obtain ⟨h0, h1, h2, h3, h4⟩ := B0.cells
    obtain ⟨h5, h6, h7, h8, h9⟩ := B1.cells
    obtain ⟨h10, h11, h12, h13, h14⟩ := B2.cells
    obtain ⟨h15, h16, h17, h18, h19⟩ := B3.cells
    have HS := (show (fun w' => w'.cell? ⟨W.heap.size, 0, none⟩ = some (.int .u64 s.a) ∧ w'.cell? ⟨W.heap.size, 1, none⟩ = some (.int .u64 s.b) ∧ w'.cell? ⟨W.heap.size, 2, none⟩ = some (.int .u64 s.c) ∧ w'.cell? ⟨W.heap.size, 3, none⟩ = some (.int .u64 s.d) ∧ w'.cell? ⟨W.heap.size, 4, none⟩ = some (.bool f) ∧ w'.cell? ⟨W.heap.size + 1, 0, none⟩ = some (.int .u64 t.a) ∧ w'.cell? ⟨W.heap.size + 1, 1, none⟩ = some (.int .u64 t.b) ∧ w'.cell? ⟨W.heap.size + 1, 2, none⟩ = some (.int .u64 t.c) ∧ w'.cell? ⟨W.heap.size + 1, 3, none⟩ = some (.int .u64 t.d) ∧ w'.cell? ⟨W.heap.size + 1, 4, none⟩ = some (.bool g) ∧ w'.cell? ⟨W.heap.size + 1 + 1, 0, none⟩ = some (.int .u64 t.a) ∧ w'.cell? ⟨W.heap.size + 1 + 1, 1, none⟩ = some (.int .u64 t.b) ∧ w'.cell? ⟨W.heap.size + 1 + 1, 2, none⟩ = some (.int .u64 t.c) ∧ w'.cell? ⟨W.heap.size + 1 + 1, 3, none⟩ = some (.int .u64 t.d) ∧ w'.cell? ⟨W.heap.size + 1 + 1, 4, none⟩ = some (.bool g) ∧ w'.cell? ⟨W.heap.size + 1 + 1 + 1, 0, none⟩ = some (.int .u64 s.a) ∧ w'.cell? ⟨W.heap.size + 1 + 1 + 1, 1, none⟩ = some (.int .u64 s.b) ∧ w'.cell? ⟨W.heap.size + 1 + 1 + 1, 2, none⟩ = some (.int .u64 s.c) ∧ w'.cell? ⟨W.heap.size + 1 + 1 + 1, 3, none⟩ = some (.int .u64 s.d) ∧ w'.cell? ⟨W.heap.size + 1 + 1 + 1, 4, none⟩ = some (.bool f)) ((((W.alloc (.cells #[.int .u64 s.a, .int .u64 s.b, .int .u64 s.c, .int .u64 s.d, .bool f] 26)).alloc (.cells #[.int .u64 t.a, .int .u64 t.b, .int .u64 t.c, .int .u64 t.d, .bool g] 26)).alloc (.cells #[.int .u64 t.a, .int .u64 t.b, .int .u64 t.c, .int .u64 t.d, .bool g] 27)).alloc (.cells #[.int .u64 s.a, .int .u64 s.b, .int .u64 s.c, .int .u64 s.d, .bool f] 27)).drew from ⟨h0, h1, h2, h3, h4, h5, h6, h7, h8, h9, h10, h11, h12, h13, h14, h15, h16, h17, h18, h19⟩)
    clear B0 B1 B2 B3 h0 h1 h2 h3 h4 h5 h6 h7 h8 h9 h10 h11 h12 h13 h14 h15 h16 h17 h18 h19
    have K0 := Lib.hid (show W.heap.size < W.heap.size + 4 by omega)
    have K1 := Lib.hid (show W.heap.size + 1 < W.heap.size + 4 by omega)
    have K2 := Lib.hid (show W.heap.size + 1 + 1 < W.heap.size + 4 by omega)
    have K3 := Lib.hid (show W.heap.size + 1 + 1 + 1 < W.heap.size + 4 by omega)
    go_wp2_with fail
    generalize ((((W.alloc (.cells #[.int .u64 s.a, .int .u64 s.b, .int .u64 s.c, .int .u64 s.d, .bool f] 26)).alloc (.cells #[.int .u64 t.a, .int .u64 t.b, .int .u64 t.c, .int .u64 t.d, .bool g] 26)).alloc (.cells #[.int .u64 t.a, .int .u64 t.b, .int .u64 t.c, .int .u64 t.d, .bool g] 27)).alloc (.cells #[.int .u64 s.a, .int .u64 s.b, .int .u64 s.c, .int .u64 s.d, .bool f] 27)).drew = W4 at HS hL0 HB ⊢
    refine wp_region_held_drew (S := (fun w' => w'.cell? ⟨W.heap.size, 0, none⟩ = some (.int .u64 s.a) ∧ w'.cell? ⟨W.heap.size, 1, none⟩ = some (.int .u64 s.b) ∧ w'.cell? ⟨W.heap.size, 2, none⟩ = some (.int .u64 s.c) ∧ w'.cell? ⟨W.heap.size, 3, none⟩ = some (.int .u64 s.d) ∧ w'.cell? ⟨W.heap.size, 4, none⟩ = some (.bool f) ∧ w'.cell? ⟨W.heap.size + 1, 0, none⟩ = some (.int .u64 t.a) ∧ w'.cell? ⟨W.heap.size + 1, 1, none⟩ = some (.int .u64 t.b) ∧ w'.cell? ⟨W.heap.size + 1, 2, none⟩ = some (.int .u64 t.c) ∧ w'.cell? ⟨W.heap.size + 1, 3, none⟩ = some (.int .u64 t.d) ∧ w'.cell? ⟨W.heap.size + 1, 4, none⟩ = some (.bool g) ∧ w'.cell? ⟨W.heap.size + 1 + 1, 0, none⟩ = some (.int .u64 t.a) ∧ w'.cell? ⟨W.heap.size + 1 + 1, 1, none⟩ = some (.int .u64 t.b) ∧ w'.cell? ⟨W.heap.size + 1 + 1, 2, none⟩ = some (.int .u64 t.c) ∧ w'.cell? ⟨W.heap.size + 1 + 1, 3, none⟩ = some (.int .u64 t.d) ∧ w'.cell? ⟨W.heap.size + 1 + 1, 4, none⟩ = some (.bool g) ∧ w'.cell? ⟨W.heap.size + 1 + 1 + 1, 0, none⟩ = some (.int .u64 s.a) ∧ w'.cell? ⟨W.heap.size + 1 + 1 + 1, 1, none⟩ = some (.int .u64 s.b) ∧ w'.cell? ⟨W.heap.size + 1 + 1 + 1, 2, none⟩ = some (.int .u64 s.c) ∧ w'.cell? ⟨W.heap.size + 1 + 1 + 1, 3, none⟩ = some (.int .u64 s.d) ∧ w'.cell? ⟨W.heap.size + 1 + 1 + 1, 4, none⟩ = some (.bool f))) (by kernel_rfl) HS (fun hHeld => ?_)
    clear HS
    have HBd := Lib.hid (HB.out).drew
    clear HB
    have HB := Lib.hid HBd.out
    clear HBd
    have hLd := Lib.hid (le_drew hL0.out)
    clear hL0
    have hL0 := Lib.hid hLd.out
    clear hLd
    refine wpAnyH_take (i := 0) (v := ?_) rfl (by kernel_rfl) (by kernel_rfl) (by kernel_rfl) (fun _ _ _ h => h) (Or.inl ⟨by kernel_rfl, ?_⟩) (by assumption) ?_
    rotate_left
    · (intro w hSw; (try dsimp only at hSw); go_simp; (try with_reducible rfl))
    try simp only [Act.put, List.getElem_toArray, List.getElem_cons_zero, List.getElem_cons_succ, List.setIfInBounds_toArray, List.set_cons_zero, List.set_cons_succ]
    refine wpAnyH_take (i := 1) (v := ?_) rfl (by kernel_rfl) (by kernel_rfl) (by kernel_rfl) (fun _ _ _ h => h) (Or.inl ⟨by kernel_rfl, ?_⟩) (by assumption) ?_
    rotate_left
    · (intro w hSw; (try dsimp only at hSw); go_simp; (try with_reducible rfl))
    try simp only [Act.put, List.getElem_toArray, List.getElem_cons_zero, List.getElem_cons_succ, List.setIfInBounds_toArray, List.set_cons_zero, List.set_cons_succ]
    refine wpAnyH_take (i := 3) (v := ?_) rfl (by kernel_rfl) (by kernel_rfl) (by kernel_rfl) (fun _ _ _ h => h) (Or.inl ⟨by kernel_rfl, ?_⟩) (by assumption) ?_
    rotate_left
    · (intro w hSw; (try dsimp only at hSw); go_simp; (try with_reducible rfl))
    try simp only [Act.put, List.getElem_toArray, List.getElem_cons_zero, List.getElem_cons_succ, List.setIfInBounds_toArray, List.set_cons_zero, List.set_cons_succ]
    refine wpAnyH_take (i := 4) (v := ?_) rfl (by kernel_rfl) (by kernel_rfl) (by kernel_rfl) (fun _ _ _ h => h) (Or.inl ⟨by kernel_rfl, ?_⟩) (by assumption) ?_
    rotate_left
    · (intro w hSw; (try dsimp only at hSw); go_simp; (try with_reducible rfl))
    try simp only [Act.put, List.getElem_toArray, List.getElem_cons_zero, List.getElem_cons_succ, List.setIfInBounds_toArray, List.set_cons_zero, List.set_cons_succ]
    refine wpAnyH_ready (rs := [2]) (by kernel_rfl) (by simp) (AllReadyH.cons rfl (fun K hK => ?_) AllReadyH.nil)
    go_simp
    go_at_call 5
    refine (H1.out _).mono ?_
    rintro e w' ⟨rfl, hb⟩
    obtain ⟨h0, h1, h2, h3, h4, h5, h6, h7, h8, h9, h10, h11, h12, h13, h14, h15, h16, h17, h18, h19⟩ := hHeld
    have hL1 := Lib.hid (Nat.le_trans hL0.out hb.size)
    have HB1 := Lib.hid (bstep HB.out hb)
    refine hK.out _ _ ⟨S_keep hL0.out hb K0.out h0, S_keep hL0.out hb K0.out h1, S_keep hL0.out hb K0.out h2, S_keep hL0.out hb K0.out h3, S_keep hL0.out hb K0.out h4, S_keep hL0.out hb K1.out h5, S_keep hL0.out hb K1.out h6, S_keep hL0.out hb K1.out h7, S_keep hL0.out hb K1.out h8, S_keep hL0.out hb K1.out h9, S_keep hL0.out hb K2.out h10, S_keep hL0.out hb K2.out h11, S_keep hL0.out hb K2.out h12, S_keep hL0.out hb K2.out h13, S_keep hL0.out hb K2.out h14, S_keep hL0.out hb K3.out h15, S_keep hL0.out hb K3.out h16, S_keep hL0.out hb K3.out h17, S_keep hL0.out hb K3.out h18, S_keep hL0.out hb K3.out h19⟩ (fun hHeld => ?_)
    clear hK K h0 h1 h2 h3 h4 h5 h6 h7 h8 h9 h10 h11 h12 h13 h14 h15 h16 h17 h18 h19 hb hL0 HB
    have hL0 := Lib.hid hL1.out
    have HB := Lib.hid HB1.out
    clear hL1 HB1
    try simp only [Act.put, List.getElem_toArray, List.getElem_cons_zero, List.getElem_cons_succ, List.setIfInBounds_toArray, List.set_cons_zero, List.set_cons_succ]
    refine wpAnyH_ready (rs := [5]) (by kernel_rfl) (by simp) (AllReadyH.cons rfl (fun K hK => ?_) AllReadyH.nil)
    go_simp
    go_at_call 6
    refine (H2.out _).mono ?_
    rintro e w' ⟨rfl, hb⟩
    obtain ⟨h0, h1, h2, h3, h4, h5, h6, h7, h8, h9, h10, h11, h12, h13, h14, h15, h16, h17, h18, h19⟩ := hHeld
    have hL1 := Lib.hid (Nat.le_trans hL0.out hb.size)
    have HB1 := Lib.hid (bstep HB.out hb)
    refine hK.out _ _ ⟨S_keep hL0.out hb K0.out h0, S_keep hL0.out hb K0.out h1, S_keep hL0.out hb K0.out h2, S_keep hL0.out hb K0.out h3, S_keep hL0.out hb K0.out h4, S_keep hL0.out hb K1.out h5, S_keep hL0.out hb K1.out h6, S_keep hL0.out hb K1.out h7, S_keep hL0.out hb K1.out h8, S_keep hL0.out hb K1.out h9, S_keep hL0.out hb K2.out h10, S_keep hL0.out hb K2.out h11, S_keep hL0.out hb K2.out h12, S_keep hL0.out hb K2.out h13, S_keep hL0.out hb K2.out h14, S_keep hL0.out hb K3.out h15, S_keep hL0.out hb K3.out h16, S_keep hL0.out hb K3.out h17, S_keep hL0.out hb K3.out h18, S_keep hL0.out hb K3.out h19⟩ (fun hHeld => ?_)
    clear hK K h0 h1 h2 h3 h4 h5 h6 h7 h8 h9 h10 h11 h12 h13 h14 h15 h16 h17 h18 h19 hb hL0 HB
    have hL0 := Lib.hid hL1.out
    have HB := Lib.hid HB1.out
    clear hL1 HB1
    try simp only [Act.put, List.getElem_toArray, List.getElem_cons_zero, List.getElem_cons_succ, List.setIfInBounds_toArray, List.set_cons_zero, List.set_cons_succ]
    refine wpAnyH_take (i := 6) (v := ?_) rfl (by kernel_rfl) (by kernel_rfl) (by kernel_rfl) (fun _ _ _ h => h) (Or.inl ⟨by kernel_rfl, ?_⟩) (by assumption) ?_
    rotate_left
    · (intro w hSw; (try dsimp only at hSw); go_simp; (try with_reducible rfl))
    try simp only [Act.put, List.getElem_toArray, List.getElem_cons_zero, List.getElem_cons_succ, List.setIfInBounds_toArray, List.set_cons_zero, List.set_cons_succ]
    refine wpAnyH_take (i := 7) (v := ?_) rfl (by kernel_rfl) (by kernel_rfl) (by kernel_rfl) (fun _ _ _ h => h) (Or.inl ⟨by kernel_rfl, ?_⟩) (by assumption) ?_
    rotate_left
    · (intro w hSw; (try dsimp only at hSw); go_simp; (try with_reducible rfl))
    try simp only [Act.put, List.getElem_toArray, List.getElem_cons_zero, List.getElem_cons_succ, List.setIfInBounds_toArray, List.set_cons_zero, List.set_cons_succ]
    refine wpAnyH_take (i := 8) (v := ?_) rfl (by kernel_rfl) (by kernel_rfl) (by kernel_rfl) (fun _ _ _ h => h) (Or.inl ⟨by kernel_rfl, ?_⟩) (by assumption) ?_
    rotate_left
    · (intro w hSw; (try dsimp only at hSw); go_simp; (try with_reducible rfl))
    try simp only [Act.put, List.getElem_toArray, List.getElem_cons_zero, List.getElem_cons_succ, List.setIfInBounds_toArray, List.set_cons_zero, List.set_cons_succ]
    refine wpAnyH_take (i := 9) (v := ?_) rfl (by kernel_rfl) (by kernel_rfl) (by kernel_rfl) (fun _ _ _ h => h) (Or.inl ⟨by kernel_rfl, ?_⟩) (by assumption) ?_
    rotate_left
    · (intro w hSw; (try dsimp only at hSw); go_simp; (try with_reducible rfl))
    try simp only [Act.put, List.getElem_toArray, List.getElem_cons_zero, List.getElem_cons_succ, List.setIfInBounds_toArray, List.set_cons_zero, List.set_cons_succ]
    refine wpAnyH_take (i := 11) (v := ?_) rfl (by kernel_rfl) (by kernel_rfl) (by kernel_rfl) (fun _ _ _ h => h) (Or.inl ⟨by kernel_rfl, ?_⟩) (by assumption) ?_
    rotate_left
    · (intro w hSw; (try dsimp only at hSw); go_simp; (try with_reducible rfl))
    try simp only [Act.put, List.getElem_toArray, List.getElem_cons_zero, List.getElem_cons_succ, List.setIfInBounds_toArray, List.set_cons_zero, List.set_cons_succ]
    refine wpAnyH_take (i := 12) (v := ?_) rfl (by kernel_rfl) (by kernel_rfl) (by kernel_rfl) (fun _ _ _ h => h) (Or.inl ⟨by kernel_rfl, ?_⟩) (by assumption) ?_
    rotate_left
    · (intro w hSw; (try dsimp only at hSw); go_simp; (try with_reducible rfl))
    try simp only [Act.put, List.getElem_toArray, List.getElem_cons_zero, List.getElem_cons_succ, List.setIfInBounds_toArray, List.set_cons_zero, List.set_cons_succ]
    refine wpAnyH_ready (rs := [10]) (by kernel_rfl) (by simp) (AllReadyH.cons rfl (fun K hK => ?_) AllReadyH.nil)
    go_simp
    go_at_call 7
    refine (H3.out _).mono ?_
    rintro e w' ⟨rfl, hb⟩
    obtain ⟨h0, h1, h2, h3, h4, h5, h6, h7, h8, h9, h10, h11, h12, h13, h14, h15, h16, h17, h18, h19⟩ := hHeld
    have hL1 := Lib.hid (Nat.le_trans hL0.out hb.size)
    have HB1 := Lib.hid (bstep HB.out hb)
    refine hK.out _ _ ⟨S_keep hL0.out hb K0.out h0, S_keep hL0.out hb K0.out h1, S_keep hL0.out hb K0.out h2, S_keep hL0.out hb K0.out h3, S_keep hL0.out hb K0.out h4, S_keep hL0.out hb K1.out h5, S_keep hL0.out hb K1.out h6, S_keep hL0.out hb K1.out h7, S_keep hL0.out hb K1.out h8, S_keep hL0.out hb K1.out h9, S_keep hL0.out hb K2.out h10, S_keep hL0.out hb K2.out h11, S_keep hL0.out hb K2.out h12, S_keep hL0.out hb K2.out h13, S_keep hL0.out hb K2.out h14, S_keep hL0.out hb K3.out h15, S_keep hL0.out hb K3.out h16, S_keep hL0.out hb K3.out h17, S_keep hL0.out hb K3.out h18, S_keep hL0.out hb K3.out h19⟩ (fun hHeld => ?_)
    clear hK K h0 h1 h2 h3 h4 h5 h6 h7 h8 h9 h10 h11 h12 h13 h14 h15 h16 h17 h18 h19 hb hL0 HB
    have hL0 := Lib.hid hL1.out
    have HB := Lib.hid HB1.out
    clear hL1 HB1
    try simp only [Act.put, List.getElem_toArray, List.getElem_cons_zero, List.getElem_cons_succ, List.setIfInBounds_toArray, List.set_cons_zero, List.set_cons_succ]
    refine wpAnyH_ready (rs := [13]) (by kernel_rfl) (by simp) (AllReadyH.cons rfl (fun K hK => ?_) AllReadyH.nil)
    go_simp
    go_at_call 8
    refine (H4.out _).mono ?_
    rintro e w' ⟨rfl, hb⟩
    obtain ⟨h0, h1, h2, h3, h4, h5, h6, h7, h8, h9, h10, h11, h12, h13, h14, h15, h16, h17, h18, h19⟩ := hHeld
    have hL1 := Lib.hid (Nat.le_trans hL0.out hb.size)
    have HB1 := Lib.hid (bstep HB.out hb)
    refine hK.out _ _ ⟨S_keep hL0.out hb K0.out h0, S_keep hL0.out hb K0.out h1, S_keep hL0.out hb K0.out h2, S_keep hL0.out hb K0.out h3, S_keep hL0.out hb K0.out h4, S_keep hL0.out hb K1.out h5, S_keep hL0.out hb K1.out h6, S_keep hL0.out hb K1.out h7, S_keep hL0.out hb K1.out h8, S_keep hL0.out hb K1.out h9, S_keep hL0.out hb K2.out h10, S_keep hL0.out hb K2.out h11, S_keep hL0.out hb K2.out h12, S_keep hL0.out hb K2.out h13, S_keep hL0.out hb K2.out h14, S_keep hL0.out hb K3.out h15, S_keep hL0.out hb K3.out h16, S_keep hL0.out hb K3.out h17, S_keep hL0.out hb K3.out h18, S_keep hL0.out hb K3.out h19⟩ (fun hHeld => ?_)
    clear hK K h0 h1 h2 h3 h4 h5 h6 h7 h8 h9 h10 h11 h12 h13 h14 h15 h16 h17 h18 h19 hb hL0 HB
    have hL0 := Lib.hid hL1.out
    have HB := Lib.hid HB1.out
    clear hL1 HB1
    try simp only [Act.put, List.getElem_toArray, List.getElem_cons_zero, List.getElem_cons_succ, List.setIfInBounds_toArray, List.set_cons_zero, List.set_cons_succ]
    refine wpAnyH_take (i := 14) (v := ?_) rfl (by kernel_rfl) (by kernel_rfl) (by kernel_rfl) (fun _ _ _ h => h) (Or.inl ⟨by kernel_rfl, ?_⟩) (by assumption) ?_
    rotate_left
    · (intro w hSw; (try dsimp only at hSw); go_simp; (try with_reducible rfl))
    try simp only [Act.put, List.getElem_toArray, List.getElem_cons_zero, List.getElem_cons_succ, List.setIfInBounds_toArray, List.set_cons_zero, List.set_cons_succ]
    refine wpAnyH_take (i := 15) (v := ?_) rfl (by kernel_rfl) (by kernel_rfl) (by kernel_rfl) (fun _ _ _ h => h) (Or.inl ⟨by kernel_rfl, ?_⟩) (by assumption) ?_
    rotate_left
    · (intro w hSw; (try dsimp only at hSw); go_simp; (try with_reducible rfl))
    try simp only [Act.put, List.getElem_toArray, List.getElem_cons_zero, List.getElem_cons_succ, List.setIfInBounds_toArray, List.set_cons_zero, List.set_cons_succ]
    refine wpAnyH_take (i := 16) (v := ?_) rfl (by kernel_rfl) (by kernel_rfl) (by kernel_rfl) (fun _ _ _ h => h) (Or.inl ⟨by kernel_rfl, ?_⟩) (by assumption) ?_
    rotate_left
    · (intro w hSw; (try dsimp only at hSw); go_simp; (try with_reducible rfl))
    try simp only [Act.put, List.getElem_toArray, List.getElem_cons_zero, List.getElem_cons_succ, List.setIfInBounds_toArray, List.set_cons_zero, List.set_cons_succ]
    refine wpAnyH_take (i := 17) (v := ?_) rfl (by kernel_rfl) (by kernel_rfl) (by kernel_rfl) (fun _ _ _ h => h) (Or.inl ⟨by kernel_rfl, ?_⟩) (by assumption) ?_
    rotate_left
    · (intro w hSw; (try dsimp only at hSw); go_simp; (try with_reducible rfl))
    try simp only [Act.put, List.getElem_toArray, List.getElem_cons_zero, List.getElem_cons_succ, List.setIfInBounds_toArray, List.set_cons_zero, List.set_cons_succ]
    refine wpAnyH_take (i := 18) (v := ?_) rfl (by kernel_rfl) (by kernel_rfl) (by kernel_rfl) (fun _ _ _ h => h) (Or.inl ⟨by kernel_rfl, ?_⟩) (by assumption) ?_
    rotate_left
    · (intro w hSw; (try dsimp only at hSw); go_simp; (try with_reducible rfl))
    try simp only [Act.put, List.getElem_toArray, List.getElem_cons_zero, List.getElem_cons_succ, List.setIfInBounds_toArray, List.set_cons_zero, List.set_cons_succ]
    refine wpAnyH_take (i := 20) (v := ?_) rfl (by kernel_rfl) (by kernel_rfl) (by kernel_rfl) (fun _ _ _ h => h) (Or.inl ⟨by kernel_rfl, ?_⟩) (by assumption) ?_
    rotate_left
    · (intro w hSw; (try dsimp only at hSw); go_simp; (try with_reducible rfl))
    try simp only [Act.put, List.getElem_toArray, List.getElem_cons_zero, List.getElem_cons_succ, List.setIfInBounds_toArray, List.set_cons_zero, List.set_cons_succ]
    refine wpAnyH_take (i := 21) (v := ?_) rfl (by kernel_rfl) (by kernel_rfl) (by kernel_rfl) (fun _ _ _ h => h) (Or.inl ⟨by kernel_rfl, ?_⟩) (by assumption) ?_
    rotate_left
    · (intro w hSw; (try dsimp only at hSw); go_simp; (try with_reducible rfl))
    try simp only [Act.put, List.getElem_toArray, List.getElem_cons_zero, List.getElem_cons_succ, List.setIfInBounds_toArray, List.set_cons_zero, List.set_cons_succ]
    refine wpAnyH_ready (rs := [19]) (by kernel_rfl) (by simp) (AllReadyH.cons rfl (fun K hK => ?_) AllReadyH.nil)
    go_simp
    go_at_call 9
    refine (H5.out _).mono ?_
    rintro e w' ⟨rfl, hb⟩
    obtain ⟨h0, h1, h2, h3, h4, h5, h6, h7, h8, h9, h10, h11, h12, h13, h14, h15, h16, h17, h18, h19⟩ := hHeld
    have hL1 := Lib.hid (Nat.le_trans hL0.out hb.size)
    have HB1 := Lib.hid (bstep HB.out hb)
    refine hK.out _ _ ⟨S_keep hL0.out hb K0.out h0, S_keep hL0.out hb K0.out h1, S_keep hL0.out hb K0.out h2, S_keep hL0.out hb K0.out h3, S_keep hL0.out hb K0.out h4, S_keep hL0.out hb K1.out h5, S_keep hL0.out hb K1.out h6, S_keep hL0.out hb K1.out h7, S_keep hL0.out hb K1.out h8, S_keep hL0.out hb K1.out h9, S_keep hL0.out hb K2.out h10, S_keep hL0.out hb K2.out h11, S_keep hL0.out hb K2.out h12, S_keep hL0.out hb K2.out h13, S_keep hL0.out hb K2.out h14, S_keep hL0.out hb K3.out h15, S_keep hL0.out hb K3.out h16, S_keep hL0.out hb K3.out h17, S_keep hL0.out hb K3.out h18, S_keep hL0.out hb K3.out h19⟩ (fun hHeld => ?_)
    clear hK K h0 h1 h2 h3 h4 h5 h6 h7 h8 h9 h10 h11 h12 h13 h14 h15 h16 h17 h18 h19 hb hL0 HB
    have hL0 := Lib.hid hL1.out
    have HB := Lib.hid HB1.out
    clear hL1 HB1
    try simp only [Act.put, List.getElem_toArray, List.getElem_cons_zero, List.getElem_cons_succ, List.setIfInBounds_toArray, List.set_cons_zero, List.set_cons_succ]
    refine wpAnyH_ready (rs := [22]) (by kernel_rfl) (by simp) (AllReadyH.cons rfl (fun K hK => ?_) AllReadyH.nil)
    go_simp
    go_at_call 10
    refine (H6.out _).mono ?_
    rintro e w' ⟨rfl, hb⟩
    obtain ⟨h0, h1, h2, h3, h4, h5, h6, h7, h8, h9, h10, h11, h12, h13, h14, h15, h16, h17, h18, h19⟩ := hHeld
    have hL1 := Lib.hid (Nat.le_trans hL0.out hb.size)
    have HB1 := Lib.hid (bstep HB.out hb)
    refine hK.out _ _ ⟨S_keep hL0.out hb K0.out h0, S_keep hL0.out hb K0.out h1, S_keep hL0.out hb K0.out h2, S_keep hL0.out hb K0.out h3, S_keep hL0.out hb K0.out h4, S_keep hL0.out hb K1.out h5, S_keep hL0.out hb K1.out h6, S_keep hL0.out hb K1.out h7, S_keep hL0.out hb K1.out h8, S_keep hL0.out hb K1.out h9, S_keep hL0.out hb K2.out h10, S_keep hL0.out hb K2.out h11, S_keep hL0.out hb K2.out h12, S_keep hL0.out hb K2.out h13, S_keep hL0.out hb K2.out h14, S_keep hL0.out hb K3.out h15, S_keep hL0.out hb K3.out h16, S_keep hL0.out hb K3.out h17, S_keep hL0.out hb K3.out h18, S_keep hL0.out hb K3.out h19⟩ (fun hHeld => ?_)
    clear hK K h0 h1 h2 h3 h4 h5 h6 h7 h8 h9 h10 h11 h12 h13 h14 h15 h16 h17 h18 h19 hb hL0 HB
    have hL0 := Lib.hid hL1.out
    have HB := Lib.hid HB1.out
    clear hL1 HB1
    try simp only [Act.put, List.getElem_toArray, List.getElem_cons_zero, List.getElem_cons_succ, List.setIfInBounds_toArray, List.set_cons_zero, List.set_cons_succ]
    refine wpAnyH_take (i := 23) (v := ?_) rfl (by kernel_rfl) (by kernel_rfl) (by kernel_rfl) (fun _ _ _ h => h) (Or.inl ⟨by kernel_rfl, ?_⟩) (by assumption) ?_
    rotate_left
    · (intro w hSw; (try dsimp only at hSw); go_simp; (try with_reducible rfl))
    try simp only [Act.put, List.getElem_toArray, List.getElem_cons_zero, List.getElem_cons_succ, List.setIfInBounds_toArray, List.set_cons_zero, List.set_cons_succ]
    refine wpAnyH_take (i := 24) (v := ?_) rfl (by kernel_rfl) (by kernel_rfl) (by kernel_rfl) (fun _ _ _ h => h) (Or.inl ⟨by kernel_rfl, ?_⟩) (by assumption) ?_
    rotate_left
    · (intro w hSw; (try dsimp only at hSw); go_simp; (try with_reducible rfl))
    try simp only [Act.put, List.getElem_toArray, List.getElem_cons_zero, List.getElem_cons_succ, List.setIfInBounds_toArray, List.set_cons_zero, List.set_cons_succ]
    refine wpAnyH_take (i := 25) (v := ?_) rfl (by kernel_rfl) (by kernel_rfl) (by kernel_rfl) (fun _ _ _ h => h) (Or.inl ⟨by kernel_rfl, ?_⟩) (by assumption) ?_
    rotate_left
    · (intro w hSw; (try dsimp only at hSw); go_simp; (try with_reducible rfl))
    try simp only [Act.put, List.getElem_toArray, List.getElem_cons_zero, List.getElem_cons_succ, List.setIfInBounds_toArray, List.set_cons_zero, List.set_cons_succ]
    refine wpAnyH_ready (rs := [26]) (by kernel_rfl) (by simp) (AllReadyH.cons rfl (fun K hK => ?_) AllReadyH.nil)
    go_simp
    go_at_call 11
    refine (HAW.out _ HB.out).mono ?_
    rintro e w' ⟨rfl, hb⟩
    obtain ⟨h0, h1, h2, h3, h4, h5, h6, h7, h8, h9, h10, h11, h12, h13, h14, h15, h16, h17, h18, h19⟩ := hHeld
    have hL1 := Lib.hid (Nat.le_trans hL0.out hb.size)
    have HB1 := Lib.hid (bstep HB.out hb)
    refine hK.out _ _ ⟨S_keep hL0.out hb K0.out h0, S_keep hL0.out hb K0.out h1, S_keep hL0.out hb K0.out h2, S_keep hL0.out hb K0.out h3, S_keep hL0.out hb K0.out h4, S_keep hL0.out hb K1.out h5, S_keep hL0.out hb K1.out h6, S_keep hL0.out hb K1.out h7, S_keep hL0.out hb K1.out h8, S_keep hL0.out hb K1.out h9, S_keep hL0.out hb K2.out h10, S_keep hL0.out hb K2.out h11, S_keep hL0.out hb K2.out h12, S_keep hL0.out hb K2.out h13, S_keep hL0.out hb K2.out h14, S_keep hL0.out hb K3.out h15, S_keep hL0.out hb K3.out h16, S_keep hL0.out hb K3.out h17, S_keep hL0.out hb K3.out h18, S_keep hL0.out hb K3.out h19⟩ (fun hHeld => ?_)
    clear hK K h0 h1 h2 h3 h4 h5 h6 h7 h8 h9 h10 h11 h12 h13 h14 h15 h16 h17 h18 h19 hb hL0 HB
    have hL0 := Lib.hid hL1.out
    have HB := Lib.hid HB1.out
    clear hL1 HB1
    try simp only [Act.put, List.getElem_toArray, List.getElem_cons_zero, List.getElem_cons_succ, List.setIfInBounds_toArray, List.set_cons_zero, List.set_cons_succ]
    refine wpAnyH_take (i := 27) (v := ?_) rfl (by kernel_rfl) (by kernel_rfl) (by kernel_rfl) (fun _ _ _ h => h) (Or.inl ⟨by kernel_rfl, ?_⟩) (by assumption) ?_
    rotate_left
    · (intro w hSw; (try dsimp only at hSw); go_simp; (try with_reducible rfl))
    try simp only [Act.put, List.getElem_toArray, List.getElem_cons_zero, List.getElem_cons_succ, List.setIfInBounds_toArray, List.set_cons_zero, List.set_cons_succ]
    refine wpAnyH_take (i := 28) (v := ?_) rfl (by kernel_rfl) (by kernel_rfl) (by kernel_rfl) (fun _ _ _ h => h) (Or.inl ⟨by kernel_rfl, ?_⟩) (by assumption) ?_
    rotate_left
    · (intro w hSw; (try dsimp only at hSw); go_simp; (try with_reducible rfl))
    try simp only [Act.put, List.getElem_toArray, List.getElem_cons_zero, List.getElem_cons_succ, List.setIfInBounds_toArray, List.set_cons_zero, List.set_cons_succ]
    refine wpAnyH_done (by kernel_rfl) ?_ _
    go_wp2_with fail
    go_ret
    exact ⟨rfl, HB.out⟩

/-- The walk of the statement. -/
theorem two_walk (x y : Fi) (hx : Fi.ok x) (hy : Fi.ok y) (W : World)
    (haw : ∀ w, Below W.heap.size W w → Calls Tryz.prog 11 #[] w fun e w' => e = .returned (.bool true) ∧ Below w.heap.size w w') :
    Calls Tryz.prog 3 #[fv x.1 x.2, fv y.1 y.2] W fun e w' => e = .returned (.bool true) ∧ Below W.heap.size W w' :=
  two_walk0 x.1 y.1 (Fi.seq x y).1 (Fi.cho x y).1 x.2 y.2 (Fi.seq x y).2 (Fi.cho x y).2 (Fi.sub x y) W haw
    (Lib.hid (seq_any x y hx hy)) (Lib.hid (rseq_any x y hx hy)) (Lib.hid (choice_any x y hx hy)) (Lib.hid (rchoice_any x y hx hy)) (Lib.hid (sub_any x y hx hy)) (Lib.hid (rwithin_all x y hx hy))
end Go.Proofs.YtfjpbedcopdglaaGreatDoor
