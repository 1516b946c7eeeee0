/- The iterator over a set's bytes, and the two functions that range over it: List and Runs; for every set. -/
import Derived.RangeFuncNested
import Derived.RangeFuncBound
import Derived.RangeFuncCalls
import Derived.RangeFuncLeaves
import Derived.RangeFuncBox
import Derived.Shelf.Abstract
import Derived.Shelf.RegionOpen
import Derived.WalkKit
import Derived.OwnWalkIn
import Derived.TacticsInMore
import Derived.LoopNIn
import Derived.LoopIn
import Derived.Maps.AppendAt
import Derived.Lib.BufferRead
import Derived.Laws.IdiomStrings
import Derived.Test.YtjaklcmadkpmdaaDoorSetW
namespace Go.Proofs.YtjaklcmadkpmdaaDoor
open Go.RowKit Go.Shelf

attribute [local go_sem] Oper.semAt_some

/-- The table of trailing zeros, as its initialiser lays it. -/
def Tab (w : World) : Prop := TabAt 0 Lib.deBruijn64tab w
theorem Tab.lt {w : World} (h : Tab w) : 0 < w.heap.size := by
  have h0 := h 0 (by decide)
  unfold World.cell? at h0
  split at h0
  · rename_i heq; exact (Array.getElem?_eq_some_iff.1 heq).1
  · cases h0
theorem Tab.below {B : Nat} {W W' : World} (h : Tab W) (hb : Below B W W') (hB : 0 < B) : Tab W' := fun j hj => (hb.cell (p := ⟨0, j, none⟩) hB).trans (h j hj)

theorem and_pred (y : Nat) (hy : y < 18446744073709551616) (h0 : y ≠ 0) : bits BinOp.and IntKind.u64 (y : Int) ((y : Int) - 1) = ((y &&& (y - 1) : Nat) : Int) := by
  rw [show (y : Int) - 1 = ((y - 1 : Nat) : Int) by omega, u64_and_nat _ _ hy (by omega)]

/-- The bytes of a set. -/
def lstB (s : S4) : List UInt8 := s.lst.map UInt8.ofNat

theorem idx_w (s : S4) (i : Nat) (hi : i < 4) (w : World) : (Instr.index 31 (.agg #[.int .u64 s.a, .int .u64 s.b, .int .u64 s.c, .int .u64 s.d]) (.int .i64 i)).run Tryd.prog w = .ok (.int .u64 (s.w i)) w := by
  have h : i = 0 ∨ i = 1 ∨ i = 2 ∨ i = 3 := by omega
  rcases h with rfl | rfl | rfl | rfl
  · exact idx_0 _ _ _ _ w
  · exact idx_1 _ _ _ _ w
  · exact idx_2 _ _ _ _ w
  · exact idx_3 _ _ _ _ w

theorem lstTo_prefix (s : S4) {k : Nat} (hk : k ≤ 4) : lstTo s k <+: s.lst := by
  unfold lstTo S4.lst
  obtain ⟨m, hm⟩ : ∃ m, 256 = 64 * k + m := ⟨256 - 64 * k, by omega⟩
  rw [hm, List.range_add, List.filter_append]
  exact List.prefix_append _ _

set_option maxRecDepth 100000 in
set_option maxHeartbeats 1000000 in
theorem each1_in (n : Nat) (hn : 2 ≤ n) (l Bn n₀ : Nat) (s : S4) (hs : s.ok) (J Jx : List UInt8 → World → Prop) (hg : 0 < n₀)
    (hY : ∀ pre x W, J pre W → pre.length < s.lst.length → YieldAt Fence.wide (n - 1) Tryd.prog l #[.int .u8 x.toNat] W fun e W' =>
      (e = .returned (.bool true) ∧ J (pre ++ [x]) W' ∧ Below n₀ W W') ∨ (e = .returned (.bool false) ∧ Jx (pre ++ [x]) W'))
    (W : World) (hBn : Box4 W Bn s) (hT : Tab W) (h0 : J [] W) :
    CallsIn Fence.wide n Tryd.prog 58 #[.func (.yield l) #[] #[], .pointer (some ⟨Bn, 0, none⟩)] W fun e W' => (∃ v, e = .returned v) ∧
      ((∃ ys, ys = lstB s ∧ J ys W') ∨ (∃ pre, pre <+: lstB s ∧ Jx pre W')) := by
  obtain ⟨c0, c1, c2, c3⟩ := hBn.cells
  have hro : Fence.wide.round = none := rfl
  have hfn : Fence.wide.fn 58 := trivial
  refine callsIn_of_wp Tryd.func58 rfl hfn ?_ hro
  simp only [Tryd.ntmps58, List.size_toArray, List.length_cons, List.length_nil, Nat.reduceAdd, Nat.reduceSub, Array.replicate_succ, Array.replicate_zero, List.push_toArray, List.append_toArray, List.nil_append, List.cons_append]
  gi_wp2
  clear c0 c1 c2 c3
  gi_loopw [6] (fun i wr => ∃ k : Nat, k ≤ 4 ∧ i = .int .i64 k ∧ J ((lstTo s k).map UInt8.ofNat) wr ∧ Tab wr)
    (fun i _ => 4 - (intOf i).toNat)
  case atStart => exact ⟨0, by omega, rfl, h0, hT⟩
  case round =>
    obtain ⟨k, hk, rfl, hJ, hTr⟩ := hrel
    by_cases hlt : k < 4
    · have hix := idx_w s k hlt
      have hwk := S4.w_lt hs k
      have hdk : decide ((k : Int) < 4) = true := by simp; omega
      gi_wp2
      clear hix
      obtain ⟨wo, rfl⟩ : ∃ wo : World, wo = wr := ⟨_, rfl⟩
      gi_loopw [4] (fun x wr => ∃ (y : Nat) (part : List Nat), x = .int .u64 y ∧ y < 18446744073709551616 ∧ part ++ wl y = wl (s.w k) ∧ J ((lstTo s k ++ part.map (fun j => 64 * k + j)).map UInt8.ofNat) wr ∧ Tab wr)
        (fun x _ => (intOf x).toNat)
      case atStart => exact ⟨s.w k, [], rfl, hwk, rfl, by simpa using hJ, hTr⟩
      case round =>
        clear hJ hTr hwk
        obtain ⟨y, part, rfl, hy64, hp, hJ, hTr⟩ := hrel
        have HP := Lib.hid hp
        clear hp
        by_cases hy0 : y = 0
        · subst hy0
          gi_wp2
          go_roundw
          case rel =>
            refine ⟨k + 1, by omega, by go_num, ?_, hTr⟩
            have hp := HP.out
            rw [wl_zero, List.append_nil] at hp
            rw [lstTo_succ, ← hp]
            exact hJ
          case measure => simp [intOf]; omega
        · obtain ⟨c, hc⟩ : ∃ c, Lib.ctz 64 y = c := ⟨_, rfl⟩
          have hstep := wl_step hy0 hy64
          rw [hc] at hstep
          have hc64 : c < 64 := by rw [← hc]; exact (clear_low hy0 hy64).1
          have HC := Lib.hid hc
          have HS := Lib.hid hstep
          clear hc hstep
          have hpre : (lstTo s k ++ part.map (fun j => 64 * k + j)) ++ [64 * k + c] <+: s.lst := by
            refine List.IsPrefix.trans ?_ (lstTo_prefix s (k := k + 1) (by omega))
            rw [lstTo_succ, ← HP.out, HS.out]
            exact ⟨(wl (y &&& (y - 1))).map (fun j => 64 * k + j), by simp⟩
          have hlen : (((lstTo s k ++ part.map (fun j => 64 * k + j)).map UInt8.ofNat)).length < s.lst.length := by
            have := hpre.length_le
            simp only [List.length_append, List.length_cons, List.length_nil, List.length_map] at this ⊢
            omega
          have e1 : (UInt8.ofNat (64 * k + c)).toNat = 64 * k + c := by
            rw [UInt8.toNat_ofNat']; omega
          have e2 : ((UInt8.ofNat (64 * k + c)).toNat : Int) = 64 * (k : Int) + (c : Int) := by rw [e1]; omega
          obtain ⟨fn, tmps, assign, body, hy, hR⟩ := hY _ (UInt8.ofNat (64 * k + c)) wr hJ hlen
          rw [e2] at hy
          have hpos : (y : Int) ≠ 0 := by omega
          have hb1 : ((y : Int) != 0) = true := by simp; omega
          clear e1 e2 hlen
          gi_wp2_with fail
          refine ⟨trivial, fun _ => by omega, ?_⟩
          refine (callsIn_wide.2 (tz_any y hy64 hy0 _ hTr)).mono ?_
          rintro e w' ⟨rfl, rfl⟩
          rw [HC.out]
          gi_wp2_with fail
          refine ⟨fun _ => by omega, hR.mono ?_⟩
          rintro e W' (⟨rfl, hJ3, hk3⟩ | ⟨rfl, hJx3⟩)
          · have hT3 := hTr.below hk3 hg
            have hlow := Lib.hid (and_pred y hy64 hy0)
            gi_wp2
            go_roundw
            case rel =>
              refine ⟨y &&& (y - 1), part ++ [c], ?_, Nat.lt_of_le_of_lt Nat.and_le_left hy64, ?_, ?_, hT3⟩
              · rw [hlow.out]
              · rw [← HP.out, HS.out]; simp
              · simpa using hJ3
            case measure =>
              have := low_lt hy0
              rw [hlow.out]; simp [intOf]; omega
          · gi_wp2
            refine bodyPost_ret (results_none rfl _ _ _) rfl ?_
            refine ⟨⟨_, rfl⟩, .inr ⟨_, ?_, hJx3⟩⟩
            have := hpre.map UInt8.ofNat
            simpa [lstB] using this
    · obtain rfl : k = 4 := by omega
      gi_wp2
      go_end0
      exact ⟨⟨_, rfl⟩, .inl ⟨_, rfl, by rw [lstTo_four] at hJ; exact hJ⟩⟩

set_option maxHeartbeats 1000000 in
/-- each(s): the set is boxed; the function value captures the box. -/
theorem each_in (n : Nat) (s : S4) (w : World) :
    CallsIn Fence.wide n Tryd.prog 49 #[s.v] w fun e w' => e = .returned (.func (.func 58) #[] #[.pointer (some ⟨w.heap.size, 0, none⟩)]) ∧ w' = w.alloc (.cells #[.int .u64 s.a, .int .u64 s.b, .int .u64 s.c, .int .u64 s.d] 31) := by
  refine callsIn_of_wp Tryd.func49 rfl trivial ?_ rfl
  simp only [Tryd.ntmps49, List.size_toArray, List.length_cons, List.length_nil, Nat.reduceAdd, Nat.reduceSub, Array.replicate_succ, Array.replicate_zero, List.push_toArray, List.append_toArray, List.nil_append, List.cons_append]
  gi_wp2
  go_ret
  exact ⟨rfl, rfl⟩

theorem each_stops (n : Nat) (hn : 2 ≤ n) (Bn n₀ : Nat) (s : S4) (hs : s.ok) (w : World) (hBn : Bn < w.heap.size) (hc : Box4 w Bn s) (hT : Tab w) (hg : 0 < n₀) :
    SeqStopsK Fence.wide n Tryd.prog 58 #[.pointer (some ⟨Bn, 0, none⟩)] (fun x : UInt8 => #[Value.int .u8 x.toNat]) (Below n₀) (fun ys => ys = lstB s) (fun pre => pre <+: lstB s) s.lst.length w := fun l J Jx W hW _ _ hY h0 =>
  each1_in n hn l Bn n₀ s hs J Jx hg hY W (hc.below hW hBn) (hT.below hW hT.lt) h0
theorem info_u8 : (Tryd.prog.info? 5).map (fun i => (i.zero, i.size, i.bytes)) = some (some (.int .u8 0), 1, 1) := by kernel_rfl
/-- A byte, as Go holds it. -/
def byteV (x : UInt8) : Value := .int .u8 x.toNat

theorem conv_own {W : World} {B : Nat} {v : Value} (l : List UInt8) (h : W.ownsRow B 5 1 v l.length (l.map byteV)) :
    (convert 45 9 v).run Tryd.prog W = .ok (.string ⟨l.toArray⟩) W := by
  have h' := h
  obtain ⟨h1, ⟨rfl, h0⟩ | ⟨g, cap, cur, rfl, hg, hh, hn, hc, hsz, ht⟩⟩ := h
  · obtain rfl : l = [] := List.length_eq_zero_iff.1 h0
    exact Lib.run_convert_nil_bytes W _ _ 5 0 Tryd.underlying45 Tryd.underlying5 Tryd.underlying9
  · refine run_convert_bytes_back W _ _ 5 ⟨g, 0, none⟩ cap l Tryd.underlying45 Tryd.underlying5 Tryd.underlying9 fun j hj => ?_
    exact h'.cells rfl j _ (by simp [byteV, hj])

end Go.Proofs.YtjaklcmadkpmdaaDoor
