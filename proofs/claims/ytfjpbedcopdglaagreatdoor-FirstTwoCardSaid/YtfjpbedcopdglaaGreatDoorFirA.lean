/- Sets of bytes: what is in either, what is in both, whether all of one are in the other; for every two sets. -/
import Derived.Test.YtfjpbedcopdglaaGreatDoorProg
import Derived.Test.YtfjpbedcopdglaaGreatDoorSetM
import Derived.WalkKit
import Derived.WalkSpells
import Derived.WalkLawsBesides
import Derived.Laws.BitsAllLaws
import Derived.Lib.Hide
import Derived.RegionTactic
import Derived.OneCell
import Derived.StillTailTactics
import Derived.ChangeAlike
import Derived.Deep.RegionWith
namespace Go.Proofs.YtfjpbedcopdglaaGreatDoor
open Go.RowKit

/-- Four words, as Go holds them. -/
abbrev S4.v (s : S4) : Value := .agg #[.int .u64 s.a, .int .u64 s.b, .int .u64 s.c, .int .u64 s.d]

theorem bcell {W w1 : World} {B : Nat} (hb : Below B W w1) : (∀ b o, b < B → w1.cell? ⟨b, o, none⟩ = W.cell? ⟨b, o, none⟩) ∧ (∀ b o, b < B → w1.frozen? ⟨b, o, none⟩ = W.frozen? ⟨b, o, none⟩) :=
  ⟨fun b o h => hb.cell (p := ⟨b, o, none⟩) h, fun b o h => hb.frozen (p := ⟨b, o, none⟩) h⟩

/-- A block of four words. -/
def Box4 (W : World) (b : Nat) (s : S4) : Prop := W.heap[b]? = some (.cells #[.int .u64 s.a, .int .u64 s.b, .int .u64 s.c, .int .u64 s.d] 24 (0, 0))
theorem Box4.lt {W : World} {b : Nat} {s : S4} (h : Box4 W b s) : b < W.heap.size := lt_of_block h
theorem Box4.cells {W : World} {b : Nat} {s : S4} (h : Box4 W b s) : W.cell? ⟨b, 0, none⟩ = some (.int .u64 s.a) ∧ W.cell? ⟨b, 1, none⟩ = some (.int .u64 s.b) ∧ W.cell? ⟨b, 2, none⟩ = some (.int .u64 s.c) ∧ W.cell? ⟨b, 3, none⟩ = some (.int .u64 s.d) := by
  unfold Box4 at h
  simp [World.cell?, h]
theorem Box4.free {W : World} {b : Nat} {s : S4} (h : Box4 W b s) : W.frozen? ⟨b, 0, none⟩ = false ∧ W.frozen? ⟨b, 1, none⟩ = false ∧ W.frozen? ⟨b, 2, none⟩ = false ∧ W.frozen? ⟨b, 3, none⟩ = false := by
  unfold Box4 at h
  simp [World.frozen?, h]
theorem Box4.below {B : Nat} {W W' : World} {b : Nat} {s : S4} (h : Box4 W b s) (hb : Below B W W') (hlt : b < B) : Box4 W' b s := (hb.block b hlt).trans h
theorem Box4.other {W : World} {b : Nat} {s : S4} (h : Box4 W b s) {a : Addr} (hne : b ≠ a.block) (u : Value) : Box4 (W.setCell a u) b s := (Below.heap_setCell _ _ _ _ hne).trans h
theorem Box4.alloc {W : World} {b : Nat} {s : S4} (h : Box4 W b s) (o : Obj) : Box4 (W.alloc o) b s := (Below.heap_alloc W o b h.lt).trans h
theorem Box4.drew {W : World} {b : Nat} {s : S4} (h : Box4 W b s) : Box4 W.drew b s := h
theorem Box4.new (W : World) (s : S4) : Box4 (W.alloc (.cells #[.int .u64 s.a, .int .u64 s.b, .int .u64 s.c, .int .u64 s.d] 24)) W.heap.size s := by
  unfold Box4; exact heap_alloc_new _ _
theorem set_block {W : World} {b k : Nat} {cs : Array Value} {t : TypeId} (h : W.heap[b]? = some (.cells cs t (0, 0))) (u : Value) : (W.setCell ⟨b, k, none⟩ u).heap[b]? = some (.cells (cs.setIfInBounds k u) t (0, 0)) := by
  have hlt := lt_of_block h
  have h' : W.heap[b] = .cells cs t (0, 0) := by simpa [Array.getElem?_eq_getElem hlt] using h
  show (W.heap.modify b _)[b]? = _
  rw [Array.getElem?_eq_getElem (by simpa using hlt), Array.getElem_modify_self, h']
  rfl
theorem Box4.store {W : World} {b : Nat} {s : S4} (h : Box4 W b s) (t : S4) : Box4 ((((W.setCell ⟨b, 0, none⟩ (.int .u64 t.a)).setCell ⟨b, 1, none⟩ (.int .u64 t.b)).setCell ⟨b, 2, none⟩ (.int .u64 t.c)).setCell ⟨b, 3, none⟩ (.int .u64 t.d)) b t :=
  set_block (set_block (set_block (set_block h _) _) _) _
/-- Words that a call hands back from a block of its own. -/
theorem Box4.result {fn : Func} {b : Nat} {R : Ending → World → Prop} {a : Act} {W : World} {s : S4} {t : Tmp} (hr : fn.results = #[.cell t 24]) (ha : a.tmps[t]?.getD undef = .pointer (some ⟨b, 0, none⟩)) (hd : a.defers = [])
    (h : Box4 W b s) (hR : R (.returned s.v) W) : bodyPost Tryz.prog fn R .ret a W := by
  obtain ⟨c0, c1, c2, c3⟩ := h.cells
  refine bodyPost_ret (v := s.v) ?_ hd hR
  simp [results, hr, ha, go_sem, c0, c1, c2, c3]



set_option maxHeartbeats 1000000 in
theorem or_any (s t : S4) (hs : s.ok) (ht : t.ok) (w : World) :
    Calls Tryz.prog 12 #[s.v, t.v] w fun e w' => e = .returned (s.or t).v ∧ Below w.heap.size w w' := by
  have H0 := Lib.hid (u64_or_nat s.a t.a hs.1 ht.1)
  have H1 := Lib.hid (u64_or_nat s.b t.b hs.2.1 ht.2.1)
  have H2 := Lib.hid (u64_or_nat s.c t.c hs.2.2.1 ht.2.2.1)
  have H3 := Lib.hid (u64_or_nat s.d t.d hs.2.2.2 ht.2.2.2)
  have E : Hid ((s.or t).v = .agg #[.int .u64 ((s.a ||| t.a : Nat) : Int), .int .u64 ((s.b ||| t.b : Nat) : Int), .int .u64 ((s.c ||| t.c : Nat) : Int), .int .u64 ((s.d ||| t.d : Nat) : Int)]) := rfl
  rw [E.out]
  clear hs ht
  go_enter Tryz.func12, Tryz.ntmps12
  go_wp2
  refine wp_loop_rounds 5 ?_
  iterate 4 (rw [rounds_succ]; go_wp2; go_region; go_wp2)
  rw [rounds_succ]; go_wp2
  rw [H0.out, H1.out, H2.out, H3.out]
  refine bodyPost_ret (v := .agg #[.int .u64 ((s.a ||| t.a : Nat) : Int), .int .u64 ((s.b ||| t.b : Nat) : Int), .int .u64 ((s.c ||| t.c : Nat) : Int), .int .u64 ((s.d ||| t.d : Nat) : Int)]) (by simp [results, Tryz.results12, go_sem]) rfl ⟨rfl, ?_⟩
  repeat' (first | exact Below.refl _ _ | refine Below.drew ?_ | refine Below.alloc ?_ ?_ _ | omega | (simp; done) | (simp; omega))

set_option maxHeartbeats 1000000 in
theorem and_any (s t : S4) (hs : s.ok) (ht : t.ok) (w : World) :
    Calls Tryz.prog 19 #[s.v, t.v] w fun e w' => e = .returned (s.and t).v ∧ Below w.heap.size w w' := by
  have H0 := Lib.hid (u64_and_nat s.a t.a hs.1 ht.1)
  have H1 := Lib.hid (u64_and_nat s.b t.b hs.2.1 ht.2.1)
  have H2 := Lib.hid (u64_and_nat s.c t.c hs.2.2.1 ht.2.2.1)
  have H3 := Lib.hid (u64_and_nat s.d t.d hs.2.2.2 ht.2.2.2)
  have E : Hid ((s.and t).v = .agg #[.int .u64 ((s.a &&& t.a : Nat) : Int), .int .u64 ((s.b &&& t.b : Nat) : Int), .int .u64 ((s.c &&& t.c : Nat) : Int), .int .u64 ((s.d &&& t.d : Nat) : Int)]) := rfl
  rw [E.out]
  clear hs ht
  go_enter Tryz.func19, Tryz.ntmps19
  go_wp2
  refine wp_loop_rounds 5 ?_
  iterate 4 (rw [rounds_succ]; go_wp2; go_region; go_wp2)
  rw [rounds_succ]; go_wp2
  rw [H0.out, H1.out, H2.out, H3.out]
  refine bodyPost_ret (v := .agg #[.int .u64 ((s.a &&& t.a : Nat) : Int), .int .u64 ((s.b &&& t.b : Nat) : Int), .int .u64 ((s.c &&& t.c : Nat) : Int), .int .u64 ((s.d &&& t.d : Nat) : Int)]) (by simp [results, Tryz.results19, go_sem]) rfl ⟨rfl, ?_⟩
  repeat' (first | exact Below.refl _ _ | refine Below.drew ?_ | refine Below.alloc ?_ ?_ _ | omega | (simp; done) | (simp; omega))


theorem bstep {w W W' : World} (h : Below w.heap.size w W) (hb : Below W.heap.size W W') : Below w.heap.size w W' := h.trans (hb.mono h.size)

/-- The same four words? -/
def sm (a b c d a' b' c' d' : Int) : Bool := a == a' && (b == b' && (c == c' && d == d'))
@[go_sem] theorem sm_self (a b c d : Int) : sm a b c d a b c d = true := by simp [sm]
set_option maxHeartbeats 1000000 in
@[go_sem] theorem eq4 (a b c d a' b' c' d' : Int) (w : World) : (Op.equalIn 10000 24 (.agg #[.int .u64 a, .int .u64 b, .int .u64 c, .int .u64 d]) (.agg #[.int .u64 a', .int .u64 b', .int .u64 c', .int .u64 d'])).run Tryz.prog w = .ok (sm a b c d a' b' c' d') w := by
  have u3 := Tryz.underlying22
  have a3 := Tryz.isAgg22
  have z3 := Tryz.sizeOf22
  rw [show (10000 : Nat) = 9999 + 1 from rfl, Op.equalIn]
  simp only [Sem.run_bind, run_underlying Tryz.underlying24, Result.andThen_ok]
  simp only [Std.Legacy.Range.forIn_eq_forIn_range', Std.Legacy.Range.size, Nat.sub_zero, Nat.add_sub_cancel, Nat.div_one, List.range'_succ, List.range'_zero, List.forIn_cons, List.forIn_nil]
  go_simp
  by_cases h1 : a = a' <;> by_cases h2 : b = b' <;> by_cases h3 : c = c' <;> by_cases h4 : d = d' <;> simp [sm, h1, h2, h3, h4]

abbrev same4 (s t : S4) : Bool := sm s.a s.b s.c s.d t.a t.b t.c t.d
theorem same4_iff (s t : S4) : same4 s t = true ↔ s = t := by
  unfold same4 sm
  constructor
  · intro h
    simp only [Bool.and_eq_true, beq_iff_eq, Int.natCast_inj] at h
    obtain ⟨h1, h2, h3, h4⟩ := h
    cases s; cases t; simp_all
  · rintro rfl
    simp

set_option maxHeartbeats 1000000 in
theorem subset_any (s t : S4) (hs : s.ok) (ht : t.ok) (w : World) :
    Calls Tryz.prog 14 #[s.v, t.v] w fun e w' => e = .returned (.bool (same4 (s.and t) s)) ∧ Below w.heap.size w w' := by
  go_enter Tryz.func14, Tryz.ntmps14
  go_wp2
  go_region_with (go_at_call 19; refine (and_any s t hs ht _).mono ?_; rintro e w1 ⟨rfl, hb⟩; have hsz := hb.size; obtain ⟨hc, hf⟩ := bcell hb)
  all_goals
    go_wp2
    go_ret
    exact ⟨rfl, ((((Below.refl _ w).alloc (Nat.le_refl _) _).alloc (by simp) _).drew).trans (hb.mono (by simp; omega))⟩
end Go.Proofs.YtfjpbedcopdglaaGreatDoor
