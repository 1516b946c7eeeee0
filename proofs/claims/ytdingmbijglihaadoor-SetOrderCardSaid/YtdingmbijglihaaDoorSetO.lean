/- The walk of the statement on the order of sets: for every three sets it answers yes, and nothing that was there has changed. -/
import Derived.Test.YtdingmbijglihaaDoorSetT
namespace Go.Proofs.YtdingmbijglihaaDoor
open Go.RowKit Go.Shelf

set_option maxRecDepth 100000 in
set_option maxHeartbeats 4000000 in
theorem order_walk (x y z : S4) (hx : x.ok) (hy : y.ok) (hz : z.ok) (w : World) (hT : Tab w) :
    Calls Tryd.prog 8 #[x.v, y.v, z.v] w fun e w' => e = .returned (.bool true) ∧ Below w.heap.size w w' := by
  have r1 : -1 ≤ cmpS x y := (cb_range _ _).1
  have r2 : cmpS x y ≤ 1 := (cb_range _ _).2
  have hneg : (cmpS y x != -cmpS x y) = false := by
    have := cb_turn (lstB x) (lstB y)
    simp only [bne_eq_false_iff_eq]; exact this
  have heq := cmpS_eq hx hy
  have hsub := same_sub hx hy
  have hand : same4 ((x.and y).and x) (x.and y) = true := (same4_iff _ _).2 (and_and hx hy)
  have hor : same4 (x.and (x.or y)) x = true := (same4_iff _ _).2 (and_or hx hy)
  unfold same4 at heq hsub hand hor
  have hcases : (0 < cmpS x y) ∨ (cmpS x y < 0 ∧ 0 < cmpS y z) ∨ (0 ≤ cmpS x y ∧ cmpS x y ≤ 0 ∧ 0 < cmpS y z) ∨ (0 ≤ cmpS x y ∧ cmpS x y ≤ 0 ∧ cmpS y z ≤ 0 ∧ cmpS x z ≤ 0) ∨ (cmpS x y < 0 ∧ 0 ≤ cmpS y z ∧ cmpS y z ≤ 0 ∧ cmpS x z ≤ 0) ∨ (cmpS x y < 0 ∧ cmpS y z < 0 ∧ cmpS x z < 0) := by
    obtain ⟨t1, t2, t3⟩ := cb_trans (lstB x) (lstB y) (lstB z)
    have t1 : cmpS x y ≤ 0 → cmpS y z ≤ 0 → cmpS x z ≤ 0 := t1
    have t3 : cmpS x y ≤ 0 → cmpS y z < 0 → cmpS x z < 0 := t3
    by_cases h1 : 0 < cmpS x y
    · exact .inl h1
    · by_cases h2 : 0 < cmpS y z
      · by_cases h5 : cmpS x y < 0
        · exact .inr (.inl ⟨h5, h2⟩)
        · exact .inr (.inr (.inl ⟨by omega, by omega, h2⟩))
      · have hc := t1 (by omega) (by omega)
        by_cases h3 : cmpS x y < 0
        · by_cases h4 : cmpS y z < 0
          · exact .inr (.inr (.inr (.inr (.inr ⟨h3, h4, t3 (by omega) h4⟩))))
          · exact .inr (.inr (.inr (.inr (.inl ⟨h3, by omega, by omega, hc⟩))))
        · exact .inr (.inr (.inr (.inl ⟨by omega, by omega, by omega, hc⟩)))
  go_enter Tryd.func8, Tryd.ntmps8
  go_wp2_with fail
  have hB0 : Below w.heap.size w (((w.alloc (.cells #[.int .u64 x.a, .int .u64 x.b, .int .u64 x.c, .int .u64 x.d] 26)).alloc (.cells #[.int .u64 y.a, .int .u64 y.b, .int .u64 y.c, .int .u64 y.d] 26)).alloc (.cells #[.int .u64 z.a, .int .u64 z.b, .int .u64 z.c, .int .u64 z.d] 26)) := (((Below.refl _ w).alloc (Nat.le_refl _) _).alloc (by simp) _).alloc (by simp; omega) _
  have hS0 := St.start (hT.step hB0) hB0
  have hbx := (((Box4.new w x).alloc (.cells #[.int .u64 y.a, .int .u64 y.b, .int .u64 y.c, .int .u64 y.d] 26)).alloc (.cells #[.int .u64 z.a, .int .u64 z.b, .int .u64 z.c, .int .u64 z.d] 26))
  have hby := (Box4.new (w.alloc (.cells #[.int .u64 x.a, .int .u64 x.b, .int .u64 x.c, .int .u64 x.d] 26)) y).alloc (.cells #[.int .u64 z.a, .int .u64 z.b, .int .u64 z.c, .int .u64 z.d] 26)
  have hbz := Box4.new ((w.alloc (.cells #[.int .u64 x.a, .int .u64 x.b, .int .u64 x.c, .int .u64 x.d] 26)).alloc (.cells #[.int .u64 y.a, .int .u64 y.b, .int .u64 y.c, .int .u64 y.d] 26)) z
  simp only [World.size_alloc] at hby hbz
  obtain ⟨W0, hW0⟩ : ∃ W, W = (((w.alloc (.cells #[.int .u64 x.a, .int .u64 x.b, .int .u64 x.c, .int .u64 x.d] 26)).alloc (.cells #[.int .u64 y.a, .int .u64 y.b, .int .u64 y.c, .int .u64 y.d] 26)).alloc (.cells #[.int .u64 z.a, .int .u64 z.b, .int .u64 z.c, .int .u64 z.d] 26)) := ⟨_, rfl⟩
  rw [← hW0] at hbx hby hbz hS0 ⊢
  clear hW0 hB0
  have hL := hbz.lt
  obtain ⟨N, hN⟩ : ∃ N, W0.heap.size = N := ⟨_, rfl⟩
  rw [hN] at hS0 hL
  clear hN
  have hLx : w.heap.size < N := by omega
  have hLy : w.heap.size + 1 < N := by omega
  obtain ⟨x0, x1, x2, x3⟩ := hbx.cells
  obtain ⟨y0, y1, y2, y3⟩ := hby.cells
  obtain ⟨z0, z1, z2, z3⟩ := hbz.cells
  clear hbx hby hbz
  have hS := hS0
  clear hS0
  refine (awake_any _ hS.tab).mono ?_
  rintro e w1 ⟨rfl, hb⟩; have hS := St.step (by first | exact hS | exact St.drew hS) hb; clear hb; have hcx := hS.cell
  rcases hcases with hc | hc | hc | hc | hc | hc
  all_goals
    (try obtain ⟨hc1, hc2⟩ := hc)
    (try obtain ⟨hc3, hc2⟩ := hc2)
    (try obtain ⟨hc4, hc2⟩ := hc2)
    go_wp2_with fail
    go_region_held3 (fun w' => w'.cell? ⟨w.heap.size, 0, none⟩ = some (.int .u64 x.a) ∧ w'.cell? ⟨w.heap.size, 1, none⟩ = some (.int .u64 x.b) ∧ w'.cell? ⟨w.heap.size, 2, none⟩ = some (.int .u64 x.c) ∧ w'.cell? ⟨w.heap.size, 3, none⟩ = some (.int .u64 x.d) ∧ w'.cell? ⟨w.heap.size + 1, 0, none⟩ = some (.int .u64 y.a) ∧ w'.cell? ⟨w.heap.size + 1, 1, none⟩ = some (.int .u64 y.b) ∧ w'.cell? ⟨w.heap.size + 1, 2, none⟩ = some (.int .u64 y.c) ∧ w'.cell? ⟨w.heap.size + 1, 3, none⟩ = some (.int .u64 y.d) ∧ w'.cell? ⟨w.heap.size + 1 + 1, 0, none⟩ = some (.int .u64 z.a) ∧ w'.cell? ⟨w.heap.size + 1 + 1, 1, none⟩ = some (.int .u64 z.b) ∧ w'.cell? ⟨w.heap.size + 1 + 1, 2, none⟩ = some (.int .u64 z.c) ∧ w'.cell? ⟨w.heap.size + 1 + 1, 3, none⟩ = some (.int .u64 z.d))
      (first
      | go_keep
      | (go_split_ands
         refine ⟨?_, ?_, ?_, ?_, ?_, ?_, ?_, ?_, ?_, ?_, ?_, ?_⟩
         all_goals (rw [hcx _ _ (by omega)]; assumption)))
      (first
      | (go_at_call 21; refine (compare_any _ _ (by first | exact hx | exact hy | exact hz | exact S4.ok_and hx hy | exact S4.ok_or hx hy) (by first | exact hx | exact hy | exact hz | exact S4.ok_and hx hy | exact S4.ok_or hx hy) _ (by exact hS.tab)).mono ?_; rintro e w1 ⟨rfl, hb⟩; have hS := St.step (by first | exact hS | exact St.drew hS) hb; clear hb; have hcx := hS.cell)
      | (go_at_call 19; refine (subset_any _ _ (by first | exact hx | exact hy | exact hz | exact S4.ok_and hx hy | exact S4.ok_or hx hy) (by first | exact hx | exact hy | exact hz | exact S4.ok_and hx hy | exact S4.ok_or hx hy) _).mono ?_; rintro e w1 ⟨rfl, hb⟩; have hS := St.step (by first | exact hS | exact St.drew hS) hb; clear hb; have hcx := hS.cell)
      | (go_at_call 30; refine (or_any _ _ (by first | exact hx | exact hy | exact hz | exact S4.ok_and hx hy | exact S4.ok_or hx hy) (by first | exact hx | exact hy | exact hz | exact S4.ok_and hx hy | exact S4.ok_or hx hy) _).mono ?_; rintro e w1 ⟨rfl, hb⟩; have hS := St.step (by first | exact hS | exact St.drew hS) hb; clear hb; have hcx := hS.cell)
      | (go_at_call 32; refine (and_any _ _ (by first | exact hx | exact hy | exact hz | exact S4.ok_and hx hy | exact S4.ok_or hx hy) (by first | exact hx | exact hy | exact hz | exact S4.ok_and hx hy | exact S4.ok_or hx hy) _).mono ?_; rintro e w1 ⟨rfl, hb⟩; have hS := St.step (by first | exact hS | exact St.drew hS) hb; clear hb; have hcx := hS.cell)
      | (go_at_call 20; refine (meets_any _ _ (by first | exact hx | exact hy | exact hz | exact S4.ok_and hx hy | exact S4.ok_or hx hy) (by first | exact hx | exact hy | exact hz | exact S4.ok_and hx hy | exact S4.ok_or hx hy) _).mono ?_; rintro e w1 ⟨rfl, hb⟩; have hS := St.step (by first | exact hS | exact St.drew hS) hb; clear hb; have hcx := hS.cell))
    go_wp2_with (first
      | (go_at_call 21; refine (compare_any _ _ (by first | exact hx | exact hy | exact hz | exact S4.ok_and hx hy | exact S4.ok_or hx hy) (by first | exact hx | exact hy | exact hz | exact S4.ok_and hx hy | exact S4.ok_or hx hy) _ (by exact hS.tab)).mono ?_; rintro e w1 ⟨rfl, hb⟩; have hS := St.step (by first | exact hS | exact St.drew hS) hb; clear hb; have hcx := hS.cell)
      | (go_at_call 19; refine (subset_any _ _ (by first | exact hx | exact hy | exact hz | exact S4.ok_and hx hy | exact S4.ok_or hx hy) (by first | exact hx | exact hy | exact hz | exact S4.ok_and hx hy | exact S4.ok_or hx hy) _).mono ?_; rintro e w1 ⟨rfl, hb⟩; have hS := St.step (by first | exact hS | exact St.drew hS) hb; clear hb; have hcx := hS.cell)
      | (go_at_call 30; refine (or_any _ _ (by first | exact hx | exact hy | exact hz | exact S4.ok_and hx hy | exact S4.ok_or hx hy) (by first | exact hx | exact hy | exact hz | exact S4.ok_and hx hy | exact S4.ok_or hx hy) _).mono ?_; rintro e w1 ⟨rfl, hb⟩; have hS := St.step (by first | exact hS | exact St.drew hS) hb; clear hb; have hcx := hS.cell)
      | (go_at_call 32; refine (and_any _ _ (by first | exact hx | exact hy | exact hz | exact S4.ok_and hx hy | exact S4.ok_or hx hy) (by first | exact hx | exact hy | exact hz | exact S4.ok_and hx hy | exact S4.ok_or hx hy) _).mono ?_; rintro e w1 ⟨rfl, hb⟩; have hS := St.step (by first | exact hS | exact St.drew hS) hb; clear hb; have hcx := hS.cell)
      | (go_at_call 20; refine (meets_any _ _ (by first | exact hx | exact hy | exact hz | exact S4.ok_and hx hy | exact S4.ok_or hx hy) (by first | exact hx | exact hy | exact hz | exact S4.ok_and hx hy | exact S4.ok_or hx hy) _).mono ?_; rintro e w1 ⟨rfl, hb⟩; have hS := St.step (by first | exact hS | exact St.drew hS) hb; clear hb; have hcx := hS.cell))
    go_region_held3 (fun w' => w'.cell? ⟨w.heap.size, 0, none⟩ = some (.int .u64 x.a) ∧ w'.cell? ⟨w.heap.size, 1, none⟩ = some (.int .u64 x.b) ∧ w'.cell? ⟨w.heap.size, 2, none⟩ = some (.int .u64 x.c) ∧ w'.cell? ⟨w.heap.size, 3, none⟩ = some (.int .u64 x.d) ∧ w'.cell? ⟨w.heap.size + 1, 0, none⟩ = some (.int .u64 y.a) ∧ w'.cell? ⟨w.heap.size + 1, 1, none⟩ = some (.int .u64 y.b) ∧ w'.cell? ⟨w.heap.size + 1, 2, none⟩ = some (.int .u64 y.c) ∧ w'.cell? ⟨w.heap.size + 1, 3, none⟩ = some (.int .u64 y.d) ∧ w'.cell? ⟨w.heap.size + 1 + 1, 0, none⟩ = some (.int .u64 z.a) ∧ w'.cell? ⟨w.heap.size + 1 + 1, 1, none⟩ = some (.int .u64 z.b) ∧ w'.cell? ⟨w.heap.size + 1 + 1, 2, none⟩ = some (.int .u64 z.c) ∧ w'.cell? ⟨w.heap.size + 1 + 1, 3, none⟩ = some (.int .u64 z.d))
      (first
      | go_keep
      | (go_split_ands
         refine ⟨?_, ?_, ?_, ?_, ?_, ?_, ?_, ?_, ?_, ?_, ?_, ?_⟩
         all_goals (rw [hcx _ _ (by omega)]; assumption)))
      (first
      | (go_at_call 21; refine (compare_any _ _ (by first | exact hx | exact hy | exact hz | exact S4.ok_and hx hy | exact S4.ok_or hx hy) (by first | exact hx | exact hy | exact hz | exact S4.ok_and hx hy | exact S4.ok_or hx hy) _ (by exact hS.tab)).mono ?_; rintro e w1 ⟨rfl, hb⟩; have hS := St.step (by first | exact hS | exact St.drew hS) hb; clear hb; have hcx := hS.cell)
      | (go_at_call 19; refine (subset_any _ _ (by first | exact hx | exact hy | exact hz | exact S4.ok_and hx hy | exact S4.ok_or hx hy) (by first | exact hx | exact hy | exact hz | exact S4.ok_and hx hy | exact S4.ok_or hx hy) _).mono ?_; rintro e w1 ⟨rfl, hb⟩; have hS := St.step (by first | exact hS | exact St.drew hS) hb; clear hb; have hcx := hS.cell)
      | (go_at_call 30; refine (or_any _ _ (by first | exact hx | exact hy | exact hz | exact S4.ok_and hx hy | exact S4.ok_or hx hy) (by first | exact hx | exact hy | exact hz | exact S4.ok_and hx hy | exact S4.ok_or hx hy) _).mono ?_; rintro e w1 ⟨rfl, hb⟩; have hS := St.step (by first | exact hS | exact St.drew hS) hb; clear hb; have hcx := hS.cell)
      | (go_at_call 32; refine (and_any _ _ (by first | exact hx | exact hy | exact hz | exact S4.ok_and hx hy | exact S4.ok_or hx hy) (by first | exact hx | exact hy | exact hz | exact S4.ok_and hx hy | exact S4.ok_or hx hy) _).mono ?_; rintro e w1 ⟨rfl, hb⟩; have hS := St.step (by first | exact hS | exact St.drew hS) hb; clear hb; have hcx := hS.cell)
      | (go_at_call 20; refine (meets_any _ _ (by first | exact hx | exact hy | exact hz | exact S4.ok_and hx hy | exact S4.ok_or hx hy) (by first | exact hx | exact hy | exact hz | exact S4.ok_and hx hy | exact S4.ok_or hx hy) _).mono ?_; rintro e w1 ⟨rfl, hb⟩; have hS := St.step (by first | exact hS | exact St.drew hS) hb; clear hb; have hcx := hS.cell))
    go_wp2
    go_ret
    exact ⟨rfl, hS.below⟩
end Go.Proofs.YtdingmbijglihaaDoor
