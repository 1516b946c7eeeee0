/- Seq, Choice and Within of two firsts, for every two. -/
import Derived.Deep.RegionHeld3
import Derived.Test.YtfjpbedcopdglaaGreatDoorFirA
namespace Go.Proofs.YtfjpbedcopdglaaGreatDoor
open Go.RowKit

/-- A first, as Go holds it: a set, and whether it is free. -/
abbrev fv (s : S4) (f : Bool) : Value := .agg #[.int .u64 s.a, .int .u64 s.b, .int .u64 s.c, .int .u64 s.d, .bool f]

/-- A block of a first. -/
def Box5 (W : World) (b : Nat) (s : S4) (f : Bool) : Prop := W.heap[b]? = some (.cells #[.int .u64 s.a, .int .u64 s.b, .int .u64 s.c, .int .u64 s.d, .bool f] 26 (0, 0))
theorem Box5.lt {W : World} {b : Nat} {s : S4} {f : Bool} (h : Box5 W b s f) : b < W.heap.size := lt_of_block h
theorem Box5.cells {W : World} {b : Nat} {s : S4} {f : Bool} (h : Box5 W b s f) : W.cell? ⟨b, 0, none⟩ = some (.int .u64 s.a) ∧ W.cell? ⟨b, 1, none⟩ = some (.int .u64 s.b) ∧ W.cell? ⟨b, 2, none⟩ = some (.int .u64 s.c) ∧ W.cell? ⟨b, 3, none⟩ = some (.int .u64 s.d) ∧ W.cell? ⟨b, 4, none⟩ = some (.bool f) := by
  unfold Box5 at h
  simp [World.cell?, h]
theorem Box5.free {W : World} {b : Nat} {s : S4} {f : Bool} (h : Box5 W b s f) : W.frozen? ⟨b, 0, none⟩ = false ∧ W.frozen? ⟨b, 1, none⟩ = false ∧ W.frozen? ⟨b, 2, none⟩ = false ∧ W.frozen? ⟨b, 3, none⟩ = false ∧ W.frozen? ⟨b, 4, none⟩ = false := by
  unfold Box5 at h
  simp [World.frozen?, h]
theorem Box5.below {B : Nat} {W W' : World} {b : Nat} {s : S4} {f : Bool} (h : Box5 W b s f) (hb : Below B W W') (hlt : b < B) : Box5 W' b s f := (hb.block b hlt).trans h
theorem Box5.alloc {W : World} {b : Nat} {s : S4} {f : Bool} (h : Box5 W b s f) (o : Obj) : Box5 (W.alloc o) b s f := (Below.heap_alloc W o b h.lt).trans h
theorem Box5.drew {W : World} {b : Nat} {s : S4} {f : Bool} (h : Box5 W b s f) : Box5 W.drew b s f := h
theorem Box5.new (W : World) (s : S4) (f : Bool) : Box5 (W.alloc (.cells #[.int .u64 s.a, .int .u64 s.b, .int .u64 s.c, .int .u64 s.d, .bool f] 26)) W.heap.size s f := by
  unfold Box5; exact heap_alloc_new _ _
theorem Box5.store {W : World} {b : Nat} {s : S4} {f : Bool} (h : Box5 W b s f) (t : S4) (g : Bool) : Box5 (((((W.setCell ⟨b, 0, none⟩ (.int .u64 t.a)).setCell ⟨b, 1, none⟩ (.int .u64 t.b)).setCell ⟨b, 2, none⟩ (.int .u64 t.c)).setCell ⟨b, 3, none⟩ (.int .u64 t.d)).setCell ⟨b, 4, none⟩ (.bool g)) b t g :=
  set_block (set_block (set_block (set_block (set_block h _) _) _) _) _
theorem Box5.result {fn : Func} {b : Nat} {R : Ending → World → Prop} {a : Act} {W : World} {s : S4} {f : Bool} {t : Tmp} (hr : fn.results = #[.cell t 26]) (ha : a.tmps[t]?.getD undef = .pointer (some ⟨b, 0, none⟩)) (hd : a.defers = [])
    (h : Box5 W b s f) (hR : R (.returned (fv s f)) W) : bodyPost Tryz.prog fn R .ret a W := by
  obtain ⟨c0, c1, c2, c3, c4⟩ := h.cells
  refine bodyPost_ret (v := fv s f) ?_ hd hR
  simp [results, hr, ha, go_sem, c0, c1, c2, c3, c4]

theorem keepN {W W' : World} {n : Nat} (hb : Below W.heap.size W W') (h : n ≤ W.heap.size) : n ≤ W'.heap.size ∧ ∀ k o, k < n → W'.cell? ⟨k, o, none⟩ = W.cell? ⟨k, o, none⟩ :=
  ⟨Nat.le_trans h hb.size, fun _ _ hk => hb.cell (p := ⟨_, _, none⟩) (Nat.lt_of_lt_of_le hk h)⟩

set_option maxHeartbeats 4000000 in
theorem choice_at (f : Bool) (s t : S4) (hs : s.ok) (ht : t.ok) (g : Bool) (w : World) (hff : f = false) :
    Calls Tryz.prog 7 #[fv s f, fv t g] w fun e w' => e = .returned (fv (s.or t) (f || g)) ∧ Below w.heap.size w w' := by
  subst hff
  have b0 := ((Box5.new w s false).alloc (.cells #[.int .u64 t.a, .int .u64 t.b, .int .u64 t.c, .int .u64 t.d, .bool g] 26)).alloc (.cells #[.int .u64 0, .int .u64 0, .int .u64 0, .int .u64 0, .bool false] 26)
  have b1 := (Box5.new (w.alloc (.cells #[.int .u64 s.a, .int .u64 s.b, .int .u64 s.c, .int .u64 s.d, .bool false] 26)) t g).alloc (.cells #[.int .u64 0, .int .u64 0, .int .u64 0, .int .u64 0, .bool false] 26)
  have b2 := Box5.new ((w.alloc (.cells #[.int .u64 s.a, .int .u64 s.b, .int .u64 s.c, .int .u64 s.d, .bool false] 26)).alloc (.cells #[.int .u64 t.a, .int .u64 t.b, .int .u64 t.c, .int .u64 t.d, .bool g] 26)) S4.nil false
  have hB0 : Below w.heap.size w (((w.alloc (.cells #[.int .u64 s.a, .int .u64 s.b, .int .u64 s.c, .int .u64 s.d, .bool false] 26)).alloc (.cells #[.int .u64 t.a, .int .u64 t.b, .int .u64 t.c, .int .u64 t.d, .bool g] 26)).alloc (.cells #[.int .u64 0, .int .u64 0, .int .u64 0, .int .u64 0, .bool false] 26)) := (((Below.refl _ w).alloc (Nat.le_refl _) _).alloc (by simp) _).alloc (by simp; omega) _
  simp only [World.size_alloc] at b1 b2
  go_enter Tryz.func7, Tryz.ntmps7
  go_wp2_with fail
  obtain ⟨W0, hW0⟩ : ∃ W0, W0 = (((w.alloc (.cells #[.int .u64 s.a, .int .u64 s.b, .int .u64 s.c, .int .u64 s.d, .bool false] 26)).alloc (.cells #[.int .u64 t.a, .int .u64 t.b, .int .u64 t.c, .int .u64 t.d, .bool g] 26)).alloc (.cells #[.int .u64 0, .int .u64 0, .int .u64 0, .int .u64 0, .bool false] 26)) := ⟨_, rfl⟩
  have b2 : Box5 W0 (w.heap.size + 1 + 1) S4.nil false := by rw [hW0]; exact b2
  rw [← hW0] at b0 b1 hB0 ⊢
  have hL0 : w.heap.size + 3 ≤ W0.heap.size := by rw [hW0]; simp
  clear hW0
  have B2 := Lib.hid b2
  have HB := Lib.hid hB0
  clear b2 hB0
  obtain ⟨x0, x1, x2, x3, x4⟩ := b0.cells
  obtain ⟨y0, y1, y2, y3, y4⟩ := b1.cells
  have B0 := Lib.hid b0
  have B1 := Lib.hid b1
  clear b0 b1
  go_region_with (go_at_call 12; refine (or_any s t hs ht _).mono ?_; rintro e w1 ⟨rfl, hb⟩; have hb' : Below W0.heap.size W0 w1 := ⟨hb.os, hb.tape, hb.output, hb.size, hb.block⟩; obtain ⟨r0, r1, r2, r3, r4⟩ := (B2.out.below hb' (by omega)).cells; obtain ⟨q0, q1, q2, q3, q4⟩ := (B2.out.below hb' (by omega)).free; obtain ⟨z0, z1, z2, z3, z4⟩ := (B1.out.below hb' (by omega)).cells; obtain ⟨v0, v1, v2, v3, v4⟩ := (B0.out.below hb' (by omega)).cells; have B3 := Lib.hid (B2.out.below hb' (by omega)); have HB1 := Lib.hid (bstep HB.out hb'))
  all_goals go_wp2
  all_goals
    refine Box5.result rfl (by simp [go_sem]) rfl (B3.out.store (s.or t) g) ⟨by simp [Bool.false_or], ?_⟩
    exact (((((HB1.out).setCell (by simp; omega) _).setCell (by simp; omega) _).setCell (by simp; omega) _).setCell (by simp; omega) _).setCell (by simp; omega) _
end Go.Proofs.YtfjpbedcopdglaaGreatDoor
