/- What the functions of package set do to the world, one contract each, for every input; the table of trailing zeros is as its initialiser lays it. -/
import Derived.Test.YtolhignlofonjaaDoorProg
import Derived.Test.YtolhignlofonjaaDoorSetM
import Derived.WalkKit
import Derived.WalkSpells
import Derived.WalkLawsBesides
import Derived.Laws.BitsAllLaws
import Derived.Lib.Hide
import Derived.RegionTactic
import Derived.OneCell
import Derived.StillTailTactics
import Derived.ChangeAlike
import Derived.Shelf.Spec.TrailingZeros
namespace Go.Proofs.YtolhignlofonjaaDoor
open Go.RowKit

/-- Four words, as Go holds them. -/
abbrev S4.v (s : S4) : Value := .agg #[.int .u64 s.a, .int .u64 s.b, .int .u64 s.c, .int .u64 s.d]

theorem bcell {W w1 : World} {B : Nat} (hb : Below B W w1) : (∀ b o, b < B → w1.cell? ⟨b, o, none⟩ = W.cell? ⟨b, o, none⟩) ∧ (∀ b o, b < B → w1.frozen? ⟨b, o, none⟩ = W.frozen? ⟨b, o, none⟩) :=
  ⟨fun b o h => hb.cell (p := ⟨b, o, none⟩) h, fun b o h => hb.frozen (p := ⟨b, o, none⟩) h⟩

/-- A block of four words. -/
def Box4 (W : World) (b : Nat) (s : S4) : Prop := W.heap[b]? = some (.cells #[.int .u64 s.a, .int .u64 s.b, .int .u64 s.c, .int .u64 s.d] 24 (0, 0))
theorem Box4.lt {W : World} {b : Nat} {s : S4} (h : Box4 W b s) : b < W.heap.size := lt_of_block h
theorem Box4.cells {W : World} {b : Nat} {s : S4} (h : Box4 W b s) : W.cell? ⟨b, 0, none⟩ = some (.int .u64 s.a) ∧ W.cell? ⟨b, 1, none⟩ = some (.int .u64 s.b) ∧ W.cell? ⟨b, 2, none⟩ = some (.int .u64 s.c) ∧ W.cell? ⟨b, 3, none⟩ = some (.int .u64 s.d) := by
  unfold Box4 at h
  simp [World.cell?, h]
theorem Box4.free {W : World} {b : Nat} {s : S4} (h : Box4 W b s) : W.frozen? ⟨b, 0, none⟩ = false ∧ W.frozen? ⟨b, 1, none⟩ = false ∧ W.frozen? ⟨b, 2, none⟩ = false ∧ W.frozen? ⟨b, 3, none⟩ = false := by
  unfold Box4 at h
  simp [World.frozen?, h]
theorem Box4.below {B : Nat} {W W' : World} {b : Nat} {s : S4} (h : Box4 W b s) (hb : Below B W W') (hlt : b < B) : Box4 W' b s := (hb.block b hlt).trans h
theorem Box4.other {W : World} {b : Nat} {s : S4} (h : Box4 W b s) {a : Addr} (hne : b ≠ a.block) (u : Value) : Box4 (W.setCell a u) b s := (Below.heap_setCell _ _ _ _ hne).trans h
theorem Box4.alloc {W : World} {b : Nat} {s : S4} (h : Box4 W b s) (o : Obj) : Box4 (W.alloc o) b s := (Below.heap_alloc W o b h.lt).trans h
theorem Box4.drew {W : World} {b : Nat} {s : S4} (h : Box4 W b s) : Box4 W.drew b s := h
theorem Box4.new (W : World) (s : S4) : Box4 (W.alloc (.cells #[.int .u64 s.a, .int .u64 s.b, .int .u64 s.c, .int .u64 s.d] 24)) W.heap.size s := by
  unfold Box4; exact heap_alloc_new _ _
theorem set_block {W : World} {b k : Nat} {cs : Array Value} {t : TypeId} (h : W.heap[b]? = some (.cells cs t (0, 0))) (u : Value) : (W.setCell ⟨b, k, none⟩ u).heap[b]? = some (.cells (cs.setIfInBounds k u) t (0, 0)) := by
  have hlt := lt_of_block h
  have h' : W.heap[b] = .cells cs t (0, 0) := by simpa [Array.getElem?_eq_getElem hlt] using h
  show (W.heap.modify b _)[b]? = _
  rw [Array.getElem?_eq_getElem (by simpa using hlt), Array.getElem_modify_self, h']
  rfl
theorem Box4.store {W : World} {b : Nat} {s : S4} (h : Box4 W b s) (t : S4) : Box4 ((((W.setCell ⟨b, 0, none⟩ (.int .u64 t.a)).setCell ⟨b, 1, none⟩ (.int .u64 t.b)).setCell ⟨b, 2, none⟩ (.int .u64 t.c)).setCell ⟨b, 3, none⟩ (.int .u64 t.d)) b t :=
  set_block (set_block (set_block (set_block h _) _) _) _
/-- Words that a call hands back from a block of its own. -/
theorem Box4.result {fn : Func} {b : Nat} {R : Ending → World → Prop} {a : Act} {W : World} {s : S4} {t : Tmp} (hr : fn.results = #[.cell t 24]) (ha : a.tmps[t]?.getD undef = .pointer (some ⟨b, 0, none⟩)) (hd : a.defers = [])
    (h : Box4 W b s) (hR : R (.returned s.v) W) : bodyPost Tryd.prog fn R .ret a W := by
  obtain ⟨c0, c1, c2, c3⟩ := h.cells
  refine bodyPost_ret (v := s.v) ?_ hd hR
  simp [results, hr, ha, go_sem, c0, c1, c2, c3]

theorem or_pow (x j : Nat) (hx : x < 18446744073709551616) (hj : j < 64) : bits BinOp.or IntKind.u64 (x : Int) (IntKind.u64.wrap (2 ^ j)) = ((x ||| 2 ^ j : Nat) : Int) := by
  have hp := S4.pow_lt hj
  have e : IntKind.u64.wrap (2 ^ j) = ((2 ^ j : Nat) : Int) := by
    have e1 : ((2 : Int) ^ j) = ((2 ^ j : Nat) : Int) := (Int.natCast_pow 2 j).symm
    rw [e1, IntKind.wrap_u64]
    generalize 2 ^ j = y at hp
    omega
  rw [e, u64_or_nat x _ hx hp]

set_option maxHeartbeats 400000 in
theorem with_0 (s : S4) (hs : s.ok) (b : Nat) (hb : b / 64 = 0) (w : World) :
    Calls Tryd.prog 36 #[s.v, .int .u8 b] w fun e w' => e = .returned (s.wth b).v ∧ Below w.heap.size w w' := by
  obtain ⟨j, hj⟩ : ∃ j, b % 64 = j := ⟨_, rfl⟩
  have hj1 : j < 64 := by omega
  have H := Lib.hid (or_pow s.a j hs.1 hj1)
  have E : Hid ((s.wth b).v = .agg #[.int .u64 ((s.a ||| 2 ^ j : Nat) : Int), .int .u64 s.b, .int .u64 s.c, .int .u64 s.d]) := by
    unfold Hid
    simp [S4.v, S4.wth, hb, hj]
  rw [E.out]
  have hq : (b : Int) / 64 = 0 := by omega
  have hr : (b : Int) % 64 = j := by omega
  have hb1 : b < 256 := by omega
  clear hb hj
  go_enter Tryd.func36, Tryd.ntmps36
  go_wp2
  rw [H.out]
  refine bodyPost_ret (v := .agg #[.int .u64 ((s.a ||| 2 ^ j : Nat) : Int), .int .u64 s.b, .int .u64 s.c, .int .u64 s.d]) (by simp [results, Tryd.results36, go_sem]) rfl ⟨rfl, ?_⟩
  exact ((Below.refl _ _).alloc (Nat.le_refl _) _).alloc (by simp) _

set_option maxHeartbeats 400000 in
theorem with_1 (s : S4) (hs : s.ok) (b : Nat) (hb : b / 64 = 1) (w : World) :
    Calls Tryd.prog 36 #[s.v, .int .u8 b] w fun e w' => e = .returned (s.wth b).v ∧ Below w.heap.size w w' := by
  obtain ⟨j, hj⟩ : ∃ j, b % 64 = j := ⟨_, rfl⟩
  have hj1 : j < 64 := by omega
  have H := Lib.hid (or_pow s.b j hs.2.1 hj1)
  have E : Hid ((s.wth b).v = .agg #[.int .u64 s.a, .int .u64 ((s.b ||| 2 ^ j : Nat) : Int), .int .u64 s.c, .int .u64 s.d]) := by
    unfold Hid
    simp [S4.v, S4.wth, hb, hj]
  rw [E.out]
  have hq : (b : Int) / 64 = 1 := by omega
  have hr : (b : Int) % 64 = j := by omega
  have hb1 : b < 256 := by omega
  clear hb hj
  go_enter Tryd.func36, Tryd.ntmps36
  go_wp2
  rw [H.out]
  refine bodyPost_ret (v := .agg #[.int .u64 s.a, .int .u64 ((s.b ||| 2 ^ j : Nat) : Int), .int .u64 s.c, .int .u64 s.d]) (by simp [results, Tryd.results36, go_sem]) rfl ⟨rfl, ?_⟩
  exact ((Below.refl _ _).alloc (Nat.le_refl _) _).alloc (by simp) _

set_option maxHeartbeats 400000 in
theorem with_2 (s : S4) (hs : s.ok) (b : Nat) (hb : b / 64 = 2) (w : World) :
    Calls Tryd.prog 36 #[s.v, .int .u8 b] w fun e w' => e = .returned (s.wth b).v ∧ Below w.heap.size w w' := by
  obtain ⟨j, hj⟩ : ∃ j, b % 64 = j := ⟨_, rfl⟩
  have hj1 : j < 64 := by omega
  have H := Lib.hid (or_pow s.c j hs.2.2.1 hj1)
  have E : Hid ((s.wth b).v = .agg #[.int .u64 s.a, .int .u64 s.b, .int .u64 ((s.c ||| 2 ^ j : Nat) : Int), .int .u64 s.d]) := by
    unfold Hid
    simp [S4.v, S4.wth, hb, hj]
  rw [E.out]
  have hq : (b : Int) / 64 = 2 := by omega
  have hr : (b : Int) % 64 = j := by omega
  have hb1 : b < 256 := by omega
  clear hb hj
  go_enter Tryd.func36, Tryd.ntmps36
  go_wp2
  rw [H.out]
  refine bodyPost_ret (v := .agg #[.int .u64 s.a, .int .u64 s.b, .int .u64 ((s.c ||| 2 ^ j : Nat) : Int), .int .u64 s.d]) (by simp [results, Tryd.results36, go_sem]) rfl ⟨rfl, ?_⟩
  exact ((Below.refl _ _).alloc (Nat.le_refl _) _).alloc (by simp) _

set_option maxHeartbeats 400000 in
theorem with_3 (s : S4) (hs : s.ok) (b : Nat) (hb : b / 64 = 3) (w : World) :
    Calls Tryd.prog 36 #[s.v, .int .u8 b] w fun e w' => e = .returned (s.wth b).v ∧ Below w.heap.size w w' := by
  obtain ⟨j, hj⟩ : ∃ j, b % 64 = j := ⟨_, rfl⟩
  have hj1 : j < 64 := by omega
  have H := Lib.hid (or_pow s.d j hs.2.2.2 hj1)
  have E : Hid ((s.wth b).v = .agg #[.int .u64 s.a, .int .u64 s.b, .int .u64 s.c, .int .u64 ((s.d ||| 2 ^ j : Nat) : Int)]) := by
    unfold Hid
    simp [S4.v, S4.wth, hb, hj]
  rw [E.out]
  have hq : (b : Int) / 64 = 3 := by omega
  have hr : (b : Int) % 64 = j := by omega
  have hb1 : b < 256 := by omega
  clear hb hj
  go_enter Tryd.func36, Tryd.ntmps36
  go_wp2
  rw [H.out]
  refine bodyPost_ret (v := .agg #[.int .u64 s.a, .int .u64 s.b, .int .u64 s.c, .int .u64 ((s.d ||| 2 ^ j : Nat) : Int)]) (by simp [results, Tryd.results36, go_sem]) rfl ⟨rfl, ?_⟩
  exact ((Below.refl _ _).alloc (Nat.le_refl _) _).alloc (by simp) _

theorem with_any (s : S4) (hs : s.ok) (b : Nat) (hb : b < 256) (w : World) :
    Calls Tryd.prog 36 #[s.v, .int .u8 b] w fun e w' => e = .returned (s.wth b).v ∧ Below w.heap.size w w' := by
  have hq : b / 64 = 0 ∨ b / 64 = 1 ∨ b / 64 = 2 ∨ b / 64 = 3 := by omega
  rcases hq with h | h | h | h
  · exact with_0 s hs b h w
  · exact with_1 s hs b h w
  · exact with_2 s hs b h w
  · exact with_3 s hs b h w

theorem test_bit (x j : Nat) (hx : x < 18446744073709551616) : (bits BinOp.and IntKind.u64 ((x : Int) / 2 ^ j) 1 == 1) = x.testBit j := by
  have e1 : ((x : Int) / 2 ^ j) = ((x / 2 ^ j : Nat) : Int) := by
    rw [Int.natCast_ediv, Int.natCast_pow]; rfl
  have hlt : x / 2 ^ j < 18446744073709551616 := Nat.lt_of_le_of_lt (Nat.div_le_self _ _) hx
  have e2 := u64_and_nat (x / 2 ^ j) 1 hlt (by decide)
  rw [e1, show (1 : Int) = ((1 : Nat) : Int) from rfl, e2, Nat.and_one_is_mod, Nat.testBit_eq_decide_div_mod_eq]
  generalize x / 2 ^ j % 2 = y
  rw [Bool.eq_iff_iff, beq_iff_eq, decide_eq_true_iff]
  omega

set_option maxHeartbeats 400000 in
theorem has_0 (s : S4) (hs : s.ok) (b : Nat) (hb : b / 64 = 0) (w : World) :
    Calls Tryd.prog 12 #[s.v, .int .u8 b] w fun e w' => e = .returned (.bool (s.has b)) ∧ Below w.heap.size w w' := by
  obtain ⟨j, hj⟩ : ∃ j, b % 64 = j := ⟨_, rfl⟩
  have hj1 : j < 64 := by omega
  have E : Hid (s.has b = s.a.testBit j) := by
    unfold Hid S4.has S4.w
    rw [hb, hj]; rfl
  have H := Lib.hid (test_bit s.a j hs.1)
  rw [E.out]
  have hq : (b : Int) / 64 = 0 := by omega
  have hr : (b : Int) % 64 = j := by omega
  have hb1 : b < 256 := by omega
  clear hb hj
  go_enter Tryd.func12, Tryd.ntmps12
  go_wp2
  rw [H.out]
  go_ret
  exact ⟨rfl, (Below.refl _ _).alloc (Nat.le_refl _) _⟩

set_option maxHeartbeats 400000 in
theorem has_1 (s : S4) (hs : s.ok) (b : Nat) (hb : b / 64 = 1) (w : World) :
    Calls Tryd.prog 12 #[s.v, .int .u8 b] w fun e w' => e = .returned (.bool (s.has b)) ∧ Below w.heap.size w w' := by
  obtain ⟨j, hj⟩ : ∃ j, b % 64 = j := ⟨_, rfl⟩
  have hj1 : j < 64 := by omega
  have E : Hid (s.has b = s.b.testBit j) := by
    unfold Hid S4.has S4.w
    rw [hb, hj]; rfl
  have H := Lib.hid (test_bit s.b j hs.2.1)
  rw [E.out]
  have hq : (b : Int) / 64 = 1 := by omega
  have hr : (b : Int) % 64 = j := by omega
  have hb1 : b < 256 := by omega
  clear hb hj
  go_enter Tryd.func12, Tryd.ntmps12
  go_wp2
  rw [H.out]
  go_ret
  exact ⟨rfl, (Below.refl _ _).alloc (Nat.le_refl _) _⟩

set_option maxHeartbeats 400000 in
theorem has_2 (s : S4) (hs : s.ok) (b : Nat) (hb : b / 64 = 2) (w : World) :
    Calls Tryd.prog 12 #[s.v, .int .u8 b] w fun e w' => e = .returned (.bool (s.has b)) ∧ Below w.heap.size w w' := by
  obtain ⟨j, hj⟩ : ∃ j, b % 64 = j := ⟨_, rfl⟩
  have hj1 : j < 64 := by omega
  have E : Hid (s.has b = s.c.testBit j) := by
    unfold Hid S4.has S4.w
    rw [hb, hj]; rfl
  have H := Lib.hid (test_bit s.c j hs.2.2.1)
  rw [E.out]
  have hq : (b : Int) / 64 = 2 := by omega
  have hr : (b : Int) % 64 = j := by omega
  have hb1 : b < 256 := by omega
  clear hb hj
  go_enter Tryd.func12, Tryd.ntmps12
  go_wp2
  rw [H.out]
  go_ret
  exact ⟨rfl, (Below.refl _ _).alloc (Nat.le_refl _) _⟩

set_option maxHeartbeats 400000 in
theorem has_3 (s : S4) (hs : s.ok) (b : Nat) (hb : b / 64 = 3) (w : World) :
    Calls Tryd.prog 12 #[s.v, .int .u8 b] w fun e w' => e = .returned (.bool (s.has b)) ∧ Below w.heap.size w w' := by
  obtain ⟨j, hj⟩ : ∃ j, b % 64 = j := ⟨_, rfl⟩
  have hj1 : j < 64 := by omega
  have E : Hid (s.has b = s.d.testBit j) := by
    unfold Hid S4.has S4.w
    rw [hb, hj]; rfl
  have H := Lib.hid (test_bit s.d j hs.2.2.2)
  rw [E.out]
  have hq : (b : Int) / 64 = 3 := by omega
  have hr : (b : Int) % 64 = j := by omega
  have hb1 : b < 256 := by omega
  clear hb hj
  go_enter Tryd.func12, Tryd.ntmps12
  go_wp2
  rw [H.out]
  go_ret
  exact ⟨rfl, (Below.refl _ _).alloc (Nat.le_refl _) _⟩
theorem has_any (s : S4) (hs : s.ok) (b : Nat) (hb : b < 256) (w : World) :
    Calls Tryd.prog 12 #[s.v, .int .u8 b] w fun e w' => e = .returned (.bool (s.has b)) ∧ Below w.heap.size w w' := by
  have hq : b / 64 = 0 ∨ b / 64 = 1 ∨ b / 64 = 2 ∨ b / 64 = 3 := by omega
  rcases hq with h | h | h | h
  · exact has_0 s hs b h w
  · exact has_1 s hs b h w
  · exact has_2 s hs b h w
  · exact has_3 s hs b h w

set_option maxHeartbeats 1000000 in
theorem or_any (s t : S4) (hs : s.ok) (ht : t.ok) (w : World) :
    Calls Tryd.prog 21 #[s.v, t.v] w fun e w' => e = .returned (s.or t).v ∧ Below w.heap.size w w' := by
  have H0 := Lib.hid (u64_or_nat s.a t.a hs.1 ht.1)
  have H1 := Lib.hid (u64_or_nat s.b t.b hs.2.1 ht.2.1)
  have H2 := Lib.hid (u64_or_nat s.c t.c hs.2.2.1 ht.2.2.1)
  have H3 := Lib.hid (u64_or_nat s.d t.d hs.2.2.2 ht.2.2.2)
  have E : Hid ((s.or t).v = .agg #[.int .u64 ((s.a ||| t.a : Nat) : Int), .int .u64 ((s.b ||| t.b : Nat) : Int), .int .u64 ((s.c ||| t.c : Nat) : Int), .int .u64 ((s.d ||| t.d : Nat) : Int)]) := rfl
  rw [E.out]
  clear hs ht
  go_enter Tryd.func21, Tryd.ntmps21
  go_wp2
  refine wp_loop_rounds 5 ?_
  iterate 4 (rw [rounds_succ]; go_wp2; go_region; go_wp2)
  rw [rounds_succ]; go_wp2
  rw [H0.out, H1.out, H2.out, H3.out]
  refine bodyPost_ret (v := .agg #[.int .u64 ((s.a ||| t.a : Nat) : Int), .int .u64 ((s.b ||| t.b : Nat) : Int), .int .u64 ((s.c ||| t.c : Nat) : Int), .int .u64 ((s.d ||| t.d : Nat) : Int)]) (by simp [results, Tryd.results21, go_sem]) rfl ⟨rfl, ?_⟩
  repeat' (first | exact Below.refl _ _ | refine Below.drew ?_ | refine Below.alloc ?_ ?_ _ | omega | (simp; done) | (simp; omega))

set_option maxHeartbeats 1000000 in
theorem and_any (s t : S4) (hs : s.ok) (ht : t.ok) (w : World) :
    Calls Tryd.prog 23 #[s.v, t.v] w fun e w' => e = .returned (s.and t).v ∧ Below w.heap.size w w' := by
  have H0 := Lib.hid (u64_and_nat s.a t.a hs.1 ht.1)
  have H1 := Lib.hid (u64_and_nat s.b t.b hs.2.1 ht.2.1)
  have H2 := Lib.hid (u64_and_nat s.c t.c hs.2.2.1 ht.2.2.1)
  have H3 := Lib.hid (u64_and_nat s.d t.d hs.2.2.2 ht.2.2.2)
  have E : Hid ((s.and t).v = .agg #[.int .u64 ((s.a &&& t.a : Nat) : Int), .int .u64 ((s.b &&& t.b : Nat) : Int), .int .u64 ((s.c &&& t.c : Nat) : Int), .int .u64 ((s.d &&& t.d : Nat) : Int)]) := rfl
  rw [E.out]
  clear hs ht
  go_enter Tryd.func23, Tryd.ntmps23
  go_wp2
  refine wp_loop_rounds 5 ?_
  iterate 4 (rw [rounds_succ]; go_wp2; go_region; go_wp2)
  rw [rounds_succ]; go_wp2
  rw [H0.out, H1.out, H2.out, H3.out]
  refine bodyPost_ret (v := .agg #[.int .u64 ((s.a &&& t.a : Nat) : Int), .int .u64 ((s.b &&& t.b : Nat) : Int), .int .u64 ((s.c &&& t.c : Nat) : Int), .int .u64 ((s.d &&& t.d : Nat) : Int)]) (by simp [results, Tryd.results23, go_sem]) rfl ⟨rfl, ?_⟩
  repeat' (first | exact Below.refl _ _ | refine Below.drew ?_ | refine Below.alloc ?_ ?_ _ | omega | (simp; done) | (simp; omega))

set_option maxHeartbeats 1000000 in
theorem minus_any (s t : S4) (hs : s.ok) (ht : t.ok) (w : World) :
    Calls Tryd.prog 25 #[s.v, t.v] w fun e w' => e = .returned (s.minus t).v ∧ Below w.heap.size w w' := by
  have H0 := Lib.hid (u64_andNot_nat s.a t.a hs.1 ht.1)
  have H1 := Lib.hid (u64_andNot_nat s.b t.b hs.2.1 ht.2.1)
  have H2 := Lib.hid (u64_andNot_nat s.c t.c hs.2.2.1 ht.2.2.1)
  have H3 := Lib.hid (u64_andNot_nat s.d t.d hs.2.2.2 ht.2.2.2)
  have E : Hid ((s.minus t).v = .agg #[.int .u64 ((s.a &&& (18446744073709551615 - t.a) : Nat) : Int), .int .u64 ((s.b &&& (18446744073709551615 - t.b) : Nat) : Int), .int .u64 ((s.c &&& (18446744073709551615 - t.c) : Nat) : Int), .int .u64 ((s.d &&& (18446744073709551615 - t.d) : Nat) : Int)]) := rfl
  rw [E.out]
  clear hs ht
  go_enter Tryd.func25, Tryd.ntmps25
  go_wp2
  refine wp_loop_rounds 5 ?_
  iterate 4 (rw [rounds_succ]; go_wp2; go_region; go_wp2)
  rw [rounds_succ]; go_wp2
  rw [H0.out, H1.out, H2.out, H3.out]
  refine bodyPost_ret (v := .agg #[.int .u64 ((s.a &&& (18446744073709551615 - t.a) : Nat) : Int), .int .u64 ((s.b &&& (18446744073709551615 - t.b) : Nat) : Int), .int .u64 ((s.c &&& (18446744073709551615 - t.c) : Nat) : Int), .int .u64 ((s.d &&& (18446744073709551615 - t.d) : Nat) : Int)]) (by simp [results, Tryd.results25, go_sem]) rfl ⟨rfl, ?_⟩
  repeat' (first | exact Below.refl _ _ | refine Below.drew ?_ | refine Below.alloc ?_ ?_ _ | omega | (simp; done) | (simp; omega))

theorem xor_max (x : Nat) (hx : x < 18446744073709551616) : bits BinOp.xor IntKind.u64 IntKind.u64.max (x : Int) = ((18446744073709551615 - x : Nat) : Int) := by
  have e0 : IntKind.u64.max = ((18446744073709551615 : Nat) : Int) := by decide
  rw [e0, u64_xor_nat _ _ (by decide) hx]
  congr 1
  refine word_ext ?_ (by omega) fun j hj => ?_
  · rw [← two64] at hx ⊢
    exact Nat.xor_lt_two_pow (by decide) hx
  · rw [Nat.testBit_xor, S4.testBit_sub hx hj, show (18446744073709551615 : Nat) = 2 ^ 64 - 1 by decide, Nat.testBit_two_pow_sub_one]
    simp [hj]

set_option maxHeartbeats 1000000 in
theorem not_any (s : S4) (hs : s.ok) (w : World) :
    Calls Tryd.prog 27 #[s.v] w fun e w' => e = .returned (s.not).v ∧ Below w.heap.size w w' := by
  have H0 := Lib.hid (xor_max s.a hs.1)
  have H1 := Lib.hid (xor_max s.b hs.2.1)
  have H2 := Lib.hid (xor_max s.c hs.2.2.1)
  have H3 := Lib.hid (xor_max s.d hs.2.2.2)
  have E : Hid ((s.not).v = .agg #[.int .u64 ((18446744073709551615 - s.a : Nat) : Int), .int .u64 ((18446744073709551615 - s.b : Nat) : Int), .int .u64 ((18446744073709551615 - s.c : Nat) : Int), .int .u64 ((18446744073709551615 - s.d : Nat) : Int)]) := rfl
  rw [E.out]
  clear hs
  have hsg : IntKind.u64.signed = false := rfl
  go_enter Tryd.func27, Tryd.ntmps27
  go_wp2
  refine wp_loop_rounds 5 ?_
  iterate 5 (rw [rounds_succ]; go_wp2)
  rw [H0.out, H1.out, H2.out, H3.out]
  refine bodyPost_ret (v := .agg #[.int .u64 ((18446744073709551615 - s.a : Nat) : Int), .int .u64 ((18446744073709551615 - s.b : Nat) : Int), .int .u64 ((18446744073709551615 - s.c : Nat) : Int), .int .u64 ((18446744073709551615 - s.d : Nat) : Int)]) (by simp [results, Tryd.results27, go_sem]) rfl ⟨rfl, ?_⟩
  repeat' (first | exact Below.refl _ _ | refine Below.drew ?_ | refine Below.alloc ?_ ?_ _ | omega | (simp; done) | (simp; omega))

theorem wrap_add (a b : Nat) : IntKind.u64.wrap ((a : Int) + (b : Int)) = (((a + b) % 18446744073709551616 : Nat) : Int) := by
  rw [IntKind.wrap_u64]; omega

theorem low7 (y : Nat) (hy : y < 18446744073709551616) : bits BinOp.and IntKind.i64 (wrap64 (y : Int)) 127 = ((y % 128 : Nat) : Int) := by
  have e1 : (BitVec.ofInt 64 (wrap64 (y : Int))).toNat = y := by
    rw [BitVec.toNat_ofInt]; unfold wrap64; omega
  have e2 : (BitVec.ofInt 64 127).toNat = 127 := by decide
  show IntKind.i64.wrap ((BitVec.ofInt 64 (wrap64 (y : Int)) &&& BitVec.ofInt 64 127).toNat : Int) = _
  rw [BitVec.toNat_and, e1, e2, show (127 : Nat) = 2 ^ 7 - 1 by decide, Nat.and_two_pow_sub_one_eq_mod, IntKind.wrap_i64]
  omega

set_option maxHeartbeats 1000000 in
theorem ones_any (x : Nat) (hx : x < 18446744073709551616) (w : World) :
    Calls Tryd.prog 39 #[.int .u64 x] w fun e w' => e = .returned (.int .i64 (pc x : Int)) ∧ w = w' := by
  rw [← ones_eq hx]
  go_enter Tryd.func39, Tryd.ntmps39
  go_wp2
  obtain ⟨y1, hy1⟩ : ∃ y, y = g1 6148914691236517205 x := ⟨_, rfl⟩
  obtain ⟨y2, hy2⟩ : ∃ y, y = g2 3689348814741910323 y1 := ⟨_, rfl⟩
  obtain ⟨y3, hy3⟩ : ∃ y, y = g3 1085102592571150095 y2 := ⟨_, rfl⟩
  obtain ⟨y4, hy4⟩ : ∃ y, y = (y3 + y3 / 256) % 18446744073709551616 := ⟨_, rfl⟩
  obtain ⟨y5, hy5⟩ : ∃ y, y = (y4 + y4 / 65536) % 18446744073709551616 := ⟨_, rfl⟩
  obtain ⟨y6, hy6⟩ : ∃ y, y = (y5 + y5 / 4294967296) % 18446744073709551616 := ⟨_, rfl⟩
  have a1 := Nat.and_le_right (n := x / 2) (m := 6148914691236517205)
  have a2 := Nat.and_le_right (n := x) (m := 6148914691236517205)
  have b1 := Nat.and_le_right (n := y1 / 4) (m := 3689348814741910323)
  have b2 := Nat.and_le_right (n := y1) (m := 3689348814741910323)
  have c1 := Nat.and_le_right (n := y2 / 16 + y2) (m := 1085102592571150095)
  unfold g1 at hy1; unfold g2 at hy2; unfold g3 at hy3
  have e1 : IntKind.u64.wrap (bits BinOp.and IntKind.u64 ((x : Int) / 2) 6148914691236517205 + bits BinOp.and IntKind.u64 (x : Int) 6148914691236517205) = (y1 : Int) := by
    rw [show ((x : Int) / 2) = ((x / 2 : Nat) : Int) by omega, show (6148914691236517205 : Int) = ((6148914691236517205 : Nat) : Int) by rfl, u64_and_nat _ _ (by omega) (by decide), u64_and_nat _ _ hx (by decide), wrap_add]
    omega
  have e2 : IntKind.u64.wrap (bits BinOp.and IntKind.u64 ((y1 : Int) / 4) 3689348814741910323 + bits BinOp.and IntKind.u64 (y1 : Int) 3689348814741910323) = (y2 : Int) := by
    rw [show ((y1 : Int) / 4) = ((y1 / 4 : Nat) : Int) by omega, show (3689348814741910323 : Int) = ((3689348814741910323 : Nat) : Int) by rfl, u64_and_nat _ _ (by omega) (by decide), u64_and_nat _ _ (by omega) (by decide), wrap_add]
    omega
  have e3 : bits BinOp.and IntKind.u64 (IntKind.u64.wrap ((y2 : Int) / 16 + (y2 : Int))) 1085102592571150095 = (y3 : Int) := by
    rw [show ((y2 : Int) / 16) = ((y2 / 16 : Nat) : Int) by omega, wrap_add, Nat.mod_eq_of_lt (by omega), show (1085102592571150095 : Int) = ((1085102592571150095 : Nat) : Int) by rfl, u64_and_nat _ _ (by omega) (by decide)]
    omega
  rw [e1, e2, e3]
  have e4 : IntKind.u64.wrap ((y3 : Int) + (y3 : Int) / 256) = (y4 : Int) := by
    rw [show ((y3 : Int) / 256) = ((y3 / 256 : Nat) : Int) by omega, wrap_add]; omega
  have e5 : IntKind.u64.wrap ((y4 : Int) + (y4 : Int) / 65536) = (y5 : Int) := by
    rw [show ((y4 : Int) / 65536) = ((y4 / 65536 : Nat) : Int) by omega, wrap_add]; omega
  have e6 : IntKind.u64.wrap ((y5 : Int) + (y5 : Int) / 4294967296) = (y6 : Int) := by
    rw [show ((y5 : Int) / 4294967296) = ((y5 / 4294967296 : Nat) : Int) by omega, wrap_add]; omega
  rw [e4, e5, e6]
  have e7 := low7 y6 (by omega)
  have e8 : ones x = y6 % 128 := by rw [hy6, hy5, hy4, hy3, hy2, hy1]; rfl
  go_ret
  refine ⟨?_, rfl⟩
  show Ending.returned (Value.int IntKind.i64 (bits BinOp.and IntKind.i64 (wrap64 (y6 : Int)) 127)) = _
  rw [e7, e8]

theorem idx_0 (a b c d : Int) (w : World) : (Instr.index 24 (.agg #[.int .u64 a, .int .u64 b, .int .u64 c, .int .u64 d]) (.int .i64 0)).run Tryd.prog w = .ok (.int .u64 a) w := by kernel_rfl
theorem idx_1 (a b c d : Int) (w : World) : (Instr.index 24 (.agg #[.int .u64 a, .int .u64 b, .int .u64 c, .int .u64 d]) (.int .i64 1)).run Tryd.prog w = .ok (.int .u64 b) w := by kernel_rfl
theorem idx_2 (a b c d : Int) (w : World) : (Instr.index 24 (.agg #[.int .u64 a, .int .u64 b, .int .u64 c, .int .u64 d]) (.int .i64 2)).run Tryd.prog w = .ok (.int .u64 c) w := by kernel_rfl
theorem idx_3 (a b c d : Int) (w : World) : (Instr.index 24 (.agg #[.int .u64 a, .int .u64 b, .int .u64 c, .int .u64 d]) (.int .i64 3)).run Tryd.prog w = .ok (.int .u64 d) w := by kernel_rfl

set_option maxHeartbeats 1000000 in
theorem len_any (s : S4) (hs : s.ok) (w : World) :
    Calls Tryd.prog 14 #[s.v] w fun e w' => e = .returned (.int .i64 (s.lst.length : Int)) ∧ Below w.heap.size w w' := by
  rw [len_lst]
  obtain ⟨h0, h1, h2, h3⟩ := hs
  have p0 := pc_le s.a
  have p1 := pc_le s.b
  have p2 := pc_le s.c
  have p3 := pc_le s.d
  have i0 := idx_0 s.a s.b s.c s.d
  have i1 := idx_1 s.a s.b s.c s.d
  have i2 := idx_2 s.a s.b s.c s.d
  have i3 := idx_3 s.a s.b s.c s.d
  go_enter Tryd.func14, Tryd.ntmps14
  go_wp2
  refine wp_loop_rounds 5 ?_
  rw [rounds_succ]; go_wp2_with (go_at_call 39; refine (ones_any s.a h0 _).mono ?_; rintro e w' ⟨rfl, rfl⟩)
  rw [rounds_succ]; go_wp2_with (go_at_call 39; refine (ones_any s.b h1 _).mono ?_; rintro e w' ⟨rfl, rfl⟩)
  rw [rounds_succ]; go_wp2_with (go_at_call 39; refine (ones_any s.c h2 _).mono ?_; rintro e w' ⟨rfl, rfl⟩)
  rw [rounds_succ]; go_wp2_with (go_at_call 39; refine (ones_any s.d h3 _).mono ?_; rintro e w' ⟨rfl, rfl⟩)
  rw [rounds_succ]; go_wp2
  go_ret
  refine ⟨?_, (Below.refl _ _).alloc (Nat.le_refl _) _⟩
  show Ending.returned (Value.int IntKind.i64 ((pc s.a : Int) + (pc s.b : Int) + (pc s.c : Int) + (pc s.d : Int))) = _
  simp only [Int.natCast_add]

theorem nil_v : S4.nil.v = .agg #[.int .u64 0, .int .u64 0, .int .u64 0, .int .u64 0] := rfl
set_option maxHeartbeats 1000000 in
theorem all_any (w : World) :
    Calls Tryd.prog 35 #[] w fun e w' => e = .returned (S4.nil.not).v ∧ Below w.heap.size w w' := by
  go_enter Tryd.func35, Tryd.ntmps35
  go_wp2_with fail
  rw [← nil_v]
  refine (not_any S4.nil S4.ok_nil _).mono ?_
  rintro e w1 ⟨rfl, hb⟩
  have hsz := hb.size
  simp only [World.size_alloc] at hb hsz
  obtain ⟨hc, hf⟩ := bcell hb
  go_wp2
  have hx := (((Box4.new w S4.nil).below hb (by simp)).store S4.nil.not)
  refine Box4.result (b := w.heap.size) Tryd.results35 rfl rfl hx ⟨rfl, ?_⟩
  exact ((((((Below.refl _ w).alloc (Nat.le_refl _) _).trans (hb.mono (by simp))).setCell (Nat.le_refl _) _).setCell (Nat.le_refl _) _).setCell (Nat.le_refl _) _).setCell (Nat.le_refl _) _

set_option maxHeartbeats 1000000 in
theorem tz_core (x k idx : Nat) (w : World) (hx0 : ((x : Int) == 0) = false)
    (key : IntKind.u64.wrap (bits BinOp.and IntKind.u64 (x : Int) (IntKind.u64.wrap (-(x : Int))) * 285870213051353865) / 288230376151711744 = (idx : Int))
    (hi : idx < 64) (hk : k < 64) (hcell : w.cell? ⟨0, idx, none⟩ = some (.int .u8 k)) :
    Calls Tryd.prog 44 #[.int .u64 x] w fun e w' => e = .returned (.int .i64 k) ∧ w = w' := by
  go_enter Tryd.func44, Tryd.ntmps44
  go_wp2_with (simp only [key])
  go_ret
  exact ⟨rfl, rfl⟩

theorem tz_any (x : Nat) (hx : x < 18446744073709551616) (h0 : x ≠ 0) (w : World) (hT : TabAt 0 Lib.deBruijn64tab w) :
    Calls Tryd.prog 44 #[.int .u64 x] w fun e w' => e = .returned (.int .i64 (Lib.ctz 64 x)) ∧ w = w' := by
  obtain ⟨hlow, hk⟩ := Lib.lowest_bit 64 x h0 hx
  obtain ⟨hi, htab⟩ := Lib.deBruijn64_at _ hk
  have hcell := hT _ hi
  rw [htab] at hcell
  exact tz_core x _ _ w (by simp; omega) (tz64_key x _ hx h0 hlow) hi hk hcell

theorem take_snocU (s : ByteArray) (k : Nat) (h : k < s.size) : (s.data.toList.map UInt8.toNat).take (k + 1) = (s.data.toList.map UInt8.toNat).take k ++ [s[k].toNat] := by
  rw [List.take_succ_eq_append_getElem (by simpa using h)]
  simp
  rfl
set_option maxHeartbeats 1000000 in
theorem of_any (s : ByteArray) (hs : s.size ≤ maxLen) (w : World) :
    Calls Tryd.prog 8 #[.string s] w fun e w' => e = .returned (S4.nil.ofL (s.data.toList.map UInt8.toNat)).v ∧ Below w.heap.size w w' := by
  unfold maxLen at hs
  have hlen : s.data.toList.length = s.size := rfl
  have HL := Lib.hid hlen
  clear hlen
  go_enter Tryd.func8, Tryd.ntmps8
  go_wp2
  go_loopw [4] (fun i wr => ∃ (k : Nat) (t : S4), k ≤ s.size ∧ i = .int .i64 k ∧ t.ok ∧ t = S4.nil.ofL ((s.data.toList.map UInt8.toNat).take k) ∧
      Box4 wr (w.heap.size + 1) t ∧ Box4 wr w.heap.size S4.nil ∧ Below w.heap.size w wr)
    (fun i _ => s.size - (intOf i).toNat)
  case atStart => 
    refine ⟨0, S4.nil, Nat.zero_le _, rfl, S4.ok_nil, rfl, ?_, ?_, ?_⟩
    · have h := Box4.new (w.alloc (.cells #[.int .u64 0, .int .u64 0, .int .u64 0, .int .u64 0] 24)) S4.nil
      rw [World.size_alloc] at h
      exact h
    · exact (Box4.new w S4.nil).alloc _
    · exact ((Below.refl _ w).alloc (Nat.le_refl _) _).alloc (by simp) _
  case round =>
    obtain ⟨k, t, hk, rfl, hok, ht, hX, hR, hB⟩ := hrel
    have HT := Lib.hid ht
    clear ht
    obtain ⟨c0, c1, c2, c3⟩ := hX.cells
    have hsz := hX.lt
    by_cases hlt : k < s.size
    · go_wp2
      go_still_tail 4, (by kernel_rfl)
      change wpList _ _ _ _ _ wr.drew
      go_wp2_with fail
      refine (with_any t hok s[k].toNat (UInt8.toNat_lt _) _).mono ?_
      rintro e w1 ⟨rfl, hb0⟩
      have hb : Below wr.heap.size wr w1 := ((Below.refl _ wr).drew).trans hb0
      clear hb0
      have hsz1 := hb.size
      have hX1 := hX.below hb hX.lt
      have hR1 := hR.below hb hR.lt
      obtain ⟨d0, d1, d2, d3⟩ := hX1.cells
      obtain ⟨f0, f1, f2, f3⟩ := hX1.free
      clear c0 c1 c2 c3
      go_wp2
      go_roundw
      case rel =>
        refine ⟨k + 1, t.wth s[k].toNat, by omega, by go_num, S4.ok_wth hok _, ?_, hX1.store _, ?_, ?_⟩
        · rw [take_snocU s k hlt, S4.ofL_snoc, ← HT.out]
        · exact (((hR1.other (by simp) _).other (by simp) _).other (by simp) _).other (by simp) _
        · exact ((((hB.trans (hb.mono (by omega))).setCell (by simp) _).setCell (by simp) _).setCell (by simp) _).setCell (by simp) _
      case measure => simp [intOf]; omega
    · obtain ⟨r0, r1, r2, r3⟩ := hR.cells
      obtain ⟨f0, f1, f2, f3⟩ := hR.free
      go_wp2
      refine Box4.result (b := w.heap.size) Tryd.results8 rfl rfl (hR.store t) ⟨?_, ?_⟩
      · obtain rfl : k = s.size := by omega
        rw [HT.out, List.take_of_length_le (by simp)]
      · exact (((hB.setCell (Nat.le_refl _) _).setCell (Nat.le_refl _) _).setCell (Nat.le_refl _) _).setCell (Nat.le_refl _) _

set_option maxHeartbeats 1000000 in
theorem range_any (a b : Nat) (ha : a < 256) (hb : b < 256) (w : World) :
    Calls Tryd.prog 10 #[.int .u8 a, .int .u8 b] w fun e w' => e = .returned (S4.nil.ofL (List.range' a (b + 1 - a))).v ∧ Below w.heap.size w w' := by
  go_enter Tryd.func10, Tryd.ntmps10
  go_wp2
  go_loopw [6] (fun i wr => ∃ (k : Nat) (t : S4), k ≤ b + 1 - a ∧ i = .int .i64 ((a : Int) + (k : Int)) ∧ t.ok ∧ t = S4.nil.ofL (List.range' a k) ∧
      Box4 wr (w.heap.size + 1) t ∧ Box4 wr w.heap.size S4.nil ∧ Below w.heap.size w wr)
    (fun i _ => b + 1 - (intOf i).toNat)
  case atStart => 
    refine ⟨0, S4.nil, Nat.zero_le _, by simp, S4.ok_nil, rfl, ?_, ?_, ?_⟩
    · have h := Box4.new (w.alloc (.cells #[.int .u64 0, .int .u64 0, .int .u64 0, .int .u64 0] 24)) S4.nil
      rw [World.size_alloc] at h
      exact h
    · exact (Box4.new w S4.nil).alloc _
    · exact ((Below.refl _ w).alloc (Nat.le_refl _) _).alloc (by simp) _
  case round =>
    obtain ⟨k, t, hk, rfl, hok, ht, hX, hR, hB⟩ := hrel
    have HT := Lib.hid ht
    clear ht
    obtain ⟨c0, c1, c2, c3⟩ := hX.cells
    have hsz := hX.lt
    by_cases hlt : (a : Int) + (k : Int) ≤ b
    · go_wp2_with fail
      have e0 : (a : Int) + (k : Int) = ((a + k : Nat) : Int) := by omega
      have hak : a + k < 256 := by omega
      rw [e0]
      refine (with_any t hok (a + k) hak _).mono ?_
      rintro e w1 ⟨rfl, hb1⟩
      have hsz1 := hb1.size
      have hX1 := hX.below hb1 hX.lt
      have hR1 := hR.below hb1 hR.lt
      obtain ⟨d0, d1, d2, d3⟩ := hX1.cells
      obtain ⟨f0, f1, f2, f3⟩ := hX1.free
      clear c0 c1 c2 c3 e0
      go_wp2
      go_roundw
      case rel =>
        refine ⟨k + 1, t.wth (a + k), by omega, by go_num, S4.ok_wth hok _, ?_, hX1.store _, ?_, ?_⟩
        · rw [List.range'_1_concat, S4.ofL_snoc, ← HT.out]
        · exact (((hR1.other (by simp) _).other (by simp) _).other (by simp) _).other (by simp) _
        · exact ((((hB.trans (hb1.mono (by omega))).setCell (by simp) _).setCell (by simp) _).setCell (by simp) _).setCell (by simp) _
      case measure => simp [intOf]; omega
    · obtain ⟨r0, r1, r2, r3⟩ := hR.cells
      obtain ⟨f0, f1, f2, f3⟩ := hR.free
      go_wp2
      refine Box4.result (b := w.heap.size) Tryd.results10 rfl rfl (hR.store t) ⟨?_, ?_⟩
      · obtain rfl : k = b + 1 - a := by omega
        rw [HT.out]
      · exact (((hB.setCell (Nat.le_refl _) _).setCell (Nat.le_refl _) _).setCell (Nat.le_refl _) _).setCell (Nat.le_refl _) _

end Go.Proofs.YtolhignlofonjaaDoor
