/- What the functions of package set do to the world, one contract each, for every input; the table of trailing zeros is as its initialiser lays it. -/
import Derived.Test.YtjaklcmadkpmdaaDoorProg
import Derived.Test.YtjaklcmadkpmdaaDoorSetM
import Derived.WalkKit
import Derived.WalkSpells
import Derived.WalkLawsBesides
import Derived.Laws.BitsAllLaws
import Derived.Lib.Hide
import Derived.RegionTactic
import Derived.OneCell
import Derived.StillTailTactics
import Derived.ChangeAlike
import Derived.Shelf.Spec.TrailingZeros
namespace Go.Proofs.YtjaklcmadkpmdaaDoor
open Go.RowKit

/-- Four words, as Go holds them. -/
abbrev S4.v (s : S4) : Value := .agg #[.int .u64 s.a, .int .u64 s.b, .int .u64 s.c, .int .u64 s.d]

theorem bcell {W w1 : World} {B : Nat} (hb : Below B W w1) : (∀ b o, b < B → w1.cell? ⟨b, o, none⟩ = W.cell? ⟨b, o, none⟩) ∧ (∀ b o, b < B → w1.frozen? ⟨b, o, none⟩ = W.frozen? ⟨b, o, none⟩) :=
  ⟨fun b o h => hb.cell (p := ⟨b, o, none⟩) h, fun b o h => hb.frozen (p := ⟨b, o, none⟩) h⟩

/-- A block of four words. -/
def Box4 (W : World) (b : Nat) (s : S4) : Prop := W.heap[b]? = some (.cells #[.int .u64 s.a, .int .u64 s.b, .int .u64 s.c, .int .u64 s.d] 31 (0, 0))
theorem Box4.lt {W : World} {b : Nat} {s : S4} (h : Box4 W b s) : b < W.heap.size := lt_of_block h
theorem Box4.cells {W : World} {b : Nat} {s : S4} (h : Box4 W b s) : W.cell? ⟨b, 0, none⟩ = some (.int .u64 s.a) ∧ W.cell? ⟨b, 1, none⟩ = some (.int .u64 s.b) ∧ W.cell? ⟨b, 2, none⟩ = some (.int .u64 s.c) ∧ W.cell? ⟨b, 3, none⟩ = some (.int .u64 s.d) := by
  unfold Box4 at h
  simp [World.cell?, h]
theorem Box4.free {W : World} {b : Nat} {s : S4} (h : Box4 W b s) : W.frozen? ⟨b, 0, none⟩ = false ∧ W.frozen? ⟨b, 1, none⟩ = false ∧ W.frozen? ⟨b, 2, none⟩ = false ∧ W.frozen? ⟨b, 3, none⟩ = false := by
  unfold Box4 at h
  simp [World.frozen?, h]
theorem Box4.below {B : Nat} {W W' : World} {b : Nat} {s : S4} (h : Box4 W b s) (hb : Below B W W') (hlt : b < B) : Box4 W' b s := (hb.block b hlt).trans h
theorem Box4.other {W : World} {b : Nat} {s : S4} (h : Box4 W b s) {a : Addr} (hne : b ≠ a.block) (u : Value) : Box4 (W.setCell a u) b s := (Below.heap_setCell _ _ _ _ hne).trans h
theorem Box4.alloc {W : World} {b : Nat} {s : S4} (h : Box4 W b s) (o : Obj) : Box4 (W.alloc o) b s := (Below.heap_alloc W o b h.lt).trans h
theorem Box4.drew {W : World} {b : Nat} {s : S4} (h : Box4 W b s) : Box4 W.drew b s := h
theorem Box4.new (W : World) (s : S4) : Box4 (W.alloc (.cells #[.int .u64 s.a, .int .u64 s.b, .int .u64 s.c, .int .u64 s.d] 31)) W.heap.size s := by
  unfold Box4; exact heap_alloc_new _ _
theorem set_block {W : World} {b k : Nat} {cs : Array Value} {t : TypeId} (h : W.heap[b]? = some (.cells cs t (0, 0))) (u : Value) : (W.setCell ⟨b, k, none⟩ u).heap[b]? = some (.cells (cs.setIfInBounds k u) t (0, 0)) := by
  have hlt := lt_of_block h
  have h' : W.heap[b] = .cells cs t (0, 0) := by simpa [Array.getElem?_eq_getElem hlt] using h
  show (W.heap.modify b _)[b]? = _
  rw [Array.getElem?_eq_getElem (by simpa using hlt), Array.getElem_modify_self, h']
  rfl
theorem Box4.store {W : World} {b : Nat} {s : S4} (h : Box4 W b s) (t : S4) : Box4 ((((W.setCell ⟨b, 0, none⟩ (.int .u64 t.a)).setCell ⟨b, 1, none⟩ (.int .u64 t.b)).setCell ⟨b, 2, none⟩ (.int .u64 t.c)).setCell ⟨b, 3, none⟩ (.int .u64 t.d)) b t :=
  set_block (set_block (set_block (set_block h _) _) _) _
/-- Words that a call hands back from a block of its own. -/
theorem Box4.result {fn : Func} {b : Nat} {R : Ending → World → Prop} {a : Act} {W : World} {s : S4} {t : Tmp} (hr : fn.results = #[.cell t 31]) (ha : a.tmps[t]?.getD undef = .pointer (some ⟨b, 0, none⟩)) (hd : a.defers = [])
    (h : Box4 W b s) (hR : R (.returned s.v) W) : bodyPost Tryd.prog fn R .ret a W := by
  obtain ⟨c0, c1, c2, c3⟩ := h.cells
  refine bodyPost_ret (v := s.v) ?_ hd hR
  simp [results, hr, ha, go_sem, c0, c1, c2, c3]

theorem xor_max (x : Nat) (hx : x < 18446744073709551616) : bits BinOp.xor IntKind.u64 IntKind.u64.max (x : Int) = ((18446744073709551615 - x : Nat) : Int) := by
  have e0 : IntKind.u64.max = ((18446744073709551615 : Nat) : Int) := by decide
  rw [e0, u64_xor_nat _ _ (by decide) hx]
  congr 1
  refine word_ext ?_ (by omega) fun j hj => ?_
  · rw [← two64] at hx ⊢
    exact Nat.xor_lt_two_pow (by decide) hx
  · rw [Nat.testBit_xor, S4.testBit_sub hx hj, show (18446744073709551615 : Nat) = 2 ^ 64 - 1 by decide, Nat.testBit_two_pow_sub_one]
    simp [hj]


set_option maxHeartbeats 1000000 in
theorem not_any (s : S4) (hs : s.ok) (w : World) :
    Calls Tryd.prog 18 #[s.v] w fun e w' => e = .returned (s.not).v ∧ Below w.heap.size w w' := by
  have H0 := Lib.hid (xor_max s.a hs.1)
  have H1 := Lib.hid (xor_max s.b hs.2.1)
  have H2 := Lib.hid (xor_max s.c hs.2.2.1)
  have H3 := Lib.hid (xor_max s.d hs.2.2.2)
  have E : Hid ((s.not).v = .agg #[.int .u64 ((18446744073709551615 - s.a : Nat) : Int), .int .u64 ((18446744073709551615 - s.b : Nat) : Int), .int .u64 ((18446744073709551615 - s.c : Nat) : Int), .int .u64 ((18446744073709551615 - s.d : Nat) : Int)]) := rfl
  rw [E.out]
  clear hs
  have hsg : IntKind.u64.signed = false := rfl
  go_enter Tryd.func18, Tryd.ntmps18
  go_wp2
  refine wp_loop_rounds 5 ?_
  iterate 5 (rw [rounds_succ]; go_wp2)
  rw [H0.out, H1.out, H2.out, H3.out]
  refine bodyPost_ret (v := .agg #[.int .u64 ((18446744073709551615 - s.a : Nat) : Int), .int .u64 ((18446744073709551615 - s.b : Nat) : Int), .int .u64 ((18446744073709551615 - s.c : Nat) : Int), .int .u64 ((18446744073709551615 - s.d : Nat) : Int)]) (by simp [results, Tryd.results18, go_sem]) rfl ⟨rfl, ?_⟩
  repeat' (first | exact Below.refl _ _ | refine Below.drew ?_ | refine Below.alloc ?_ ?_ _ | omega | (simp; done) | (simp; omega))


theorem idx_0 (a b c d : Int) (w : World) : (Instr.index 31 (.agg #[.int .u64 a, .int .u64 b, .int .u64 c, .int .u64 d]) (.int .i64 0)).run Tryd.prog w = .ok (.int .u64 a) w := by kernel_rfl

theorem idx_1 (a b c d : Int) (w : World) : (Instr.index 31 (.agg #[.int .u64 a, .int .u64 b, .int .u64 c, .int .u64 d]) (.int .i64 1)).run Tryd.prog w = .ok (.int .u64 b) w := by kernel_rfl

theorem idx_2 (a b c d : Int) (w : World) : (Instr.index 31 (.agg #[.int .u64 a, .int .u64 b, .int .u64 c, .int .u64 d]) (.int .i64 2)).run Tryd.prog w = .ok (.int .u64 c) w := by kernel_rfl

theorem idx_3 (a b c d : Int) (w : World) : (Instr.index 31 (.agg #[.int .u64 a, .int .u64 b, .int .u64 c, .int .u64 d]) (.int .i64 3)).run Tryd.prog w = .ok (.int .u64 d) w := by kernel_rfl


theorem nil_v : S4.nil.v = .agg #[.int .u64 0, .int .u64 0, .int .u64 0, .int .u64 0] := rfl

set_option maxHeartbeats 1000000 in
theorem all_any (w : World) :
    Calls Tryd.prog 17 #[] w fun e w' => e = .returned (S4.nil.not).v ∧ Below w.heap.size w w' := by
  go_enter Tryd.func17, Tryd.ntmps17
  go_wp2_with fail
  rw [← nil_v]
  refine (not_any S4.nil S4.ok_nil _).mono ?_
  rintro e w1 ⟨rfl, hb⟩
  have hsz := hb.size
  simp only [World.size_alloc] at hb hsz
  obtain ⟨hc, hf⟩ := bcell hb
  go_wp2
  have hx := (((Box4.new w S4.nil).below hb (by simp)).store S4.nil.not)
  refine Box4.result (b := w.heap.size) Tryd.results17 rfl rfl hx ⟨rfl, ?_⟩
  exact ((((((Below.refl _ w).alloc (Nat.le_refl _) _).trans (hb.mono (by simp))).setCell (Nat.le_refl _) _).setCell (Nat.le_refl _) _).setCell (Nat.le_refl _) _).setCell (Nat.le_refl _) _


set_option maxHeartbeats 1000000 in
theorem tz_core (x k idx : Nat) (w : World) (hx0 : ((x : Int) == 0) = false)
    (key : IntKind.u64.wrap (bits BinOp.and IntKind.u64 (x : Int) (IntKind.u64.wrap (-(x : Int))) * 285870213051353865) / 288230376151711744 = (idx : Int))
    (hi : idx < 64) (hk : k < 64) (hcell : w.cell? ⟨0, idx, none⟩ = some (.int .u8 k)) :
    Calls Tryd.prog 59 #[.int .u64 x] w fun e w' => e = .returned (.int .i64 k) ∧ w = w' := by
  go_enter Tryd.func59, Tryd.ntmps59
  go_wp2_with (simp only [key])
  go_ret
  exact ⟨rfl, rfl⟩


theorem tz_any (x : Nat) (hx : x < 18446744073709551616) (h0 : x ≠ 0) (w : World) (hT : TabAt 0 Lib.deBruijn64tab w) :
    Calls Tryd.prog 59 #[.int .u64 x] w fun e w' => e = .returned (.int .i64 (Lib.ctz 64 x)) ∧ w = w' := by
  obtain ⟨hlow, hk⟩ := Lib.lowest_bit 64 x h0 hx
  obtain ⟨hi, htab⟩ := Lib.deBruijn64_at _ hk
  have hcell := hT _ hi
  rw [htab] at hcell
  exact tz_core x _ _ w (by simp; omega) (tz64_key x _ hx h0 hlow) hi hk hcell


theorem take_snocU (s : ByteArray) (k : Nat) (h : k < s.size) : (s.data.toList.map UInt8.toNat).take (k + 1) = (s.data.toList.map UInt8.toNat).take k ++ [s[k].toNat] := by
  rw [List.take_succ_eq_append_getElem (by simpa using h)]
  simp
  rfl

theorem bstep {w W W' : World} (h : Below w.heap.size w W) (hb : Below W.heap.size W W') : Below w.heap.size w W' := h.trans (hb.mono h.size)


/-- The same four words? -/
def sm (a b c d a' b' c' d' : Int) : Bool := a == a' && (b == b' && (c == c' && d == d'))

@[go_sem] theorem sm_self (a b c d : Int) : sm a b c d a b c d = true := by simp [sm]

set_option maxHeartbeats 1000000 in
@[go_sem] theorem eq4 (a b c d a' b' c' d' : Int) (w : World) : (Op.equalIn 10000 31 (.agg #[.int .u64 a, .int .u64 b, .int .u64 c, .int .u64 d]) (.agg #[.int .u64 a', .int .u64 b', .int .u64 c', .int .u64 d'])).run Tryd.prog w = .ok (sm a b c d a' b' c' d') w := by
  have u3 := Tryd.underlying29
  have a3 := Tryd.isAgg29
  have z3 := Tryd.sizeOf29
  rw [show (10000 : Nat) = 9999 + 1 from rfl, Op.equalIn]
  simp only [Sem.run_bind, run_underlying Tryd.underlying31, Result.andThen_ok]
  simp only [Std.Legacy.Range.forIn_eq_forIn_range', Std.Legacy.Range.size, Nat.sub_zero, Nat.add_sub_cancel, Nat.div_one, List.range'_succ, List.range'_zero, List.forIn_cons, List.forIn_nil]
  go_simp
  by_cases h1 : a = a' <;> by_cases h2 : b = b' <;> by_cases h3 : c = c' <;> by_cases h4 : d = d' <;> simp [sm, h1, h2, h3, h4]


abbrev same4 (s t : S4) : Bool := sm s.a s.b s.c s.d t.a t.b t.c t.d

theorem same4_iff (s t : S4) : same4 s t = true ↔ s = t := by
  unfold same4 sm
  constructor
  · intro h
    simp only [Bool.and_eq_true, beq_iff_eq, Int.natCast_inj] at h
    obtain ⟨h1, h2, h3, h4⟩ := h
    cases s; cases t; simp_all
  · rintro rfl
    simp

end Go.Proofs.YtjaklcmadkpmdaaDoor
