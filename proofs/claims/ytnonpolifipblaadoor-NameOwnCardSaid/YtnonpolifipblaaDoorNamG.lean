/- The iterator over the names of a stem, and Free: for every stem, and every texts that are used. -/
import Derived.RangeFuncNested
import Derived.RangeFuncBound
import Derived.RangeFuncCalls
import Derived.RangeFuncLeaves
import Derived.RangeFuncBox
import Derived.Shelf.Abstract
import Derived.Shelf.RegionOpen
import Derived.WalkKit
import Derived.OwnWalkIn
import Derived.TacticsInMore
import Derived.LoopNIn
import Derived.LoopIn
import Derived.Maps.OwnIn
import Derived.Stop.RegionWithIn
import Derived.Maps.AppendAt
import Derived.Test.YtnonpolifipblaaDoorNamF
namespace Go.Proofs.YtnonpolifipblaaDoor
open Go.RowKit Go.Shelf

attribute [local go_sem] Oper.semAt_some

theorem shB_short (n : Int) (h0 : -9223372036854775808 ≤ n) (h1 : n ≤ 9223372036854775807) : (shB n).size ≤ 4611686018427387910 := by
  rw [← size_list, shB_list]
  unfold Lib.itoa
  split
  · have := dec_short n.natAbs
    simp only [List.length_cons]
    omega
  · have := dec_short n.toNat
    omega

theorem wrap_bounds (z : Int) : -9223372036854775808 ≤ IntKind.i64.wrap z ∧ IntKind.i64.wrap z ≤ 9223372036854775807 := by
  unfold IntKind.wrap IntKind.bits IntKind.signed
  simp
  omega

theorem app_size (a b : ByteArray) : (a ++ b).size = a.size + b.size := by
  rw [← size_list, app_list, List.length_append, size_list, size_list]

theorem try_size {stem : ByteArray} (hs : stem.size ≤ 200) (k : Nat) : (tryB stem k).size ≤ maxLen := by
  unfold maxLen
  unfold tryB
  split
  · omega
  · have hw := wrap_bounds ((k : Int) + 1)
    have := shB_short _ hw.1 hw.2
    rw [app_size]
    omega

/-- A text as long as may be. -/
abbrev Txt := { x : ByteArray // x.size ≤ maxLen }

/-- What has come when k rounds are over. -/
def triesL (stem : ByteArray) (hs : stem.size ≤ 200) (k : Nat) : List Txt := (List.range k).map fun j => ⟨tryB stem j, try_size hs j⟩
theorem triesL_succ (stem : ByteArray) (hs : stem.size ≤ 200) (k : Nat) : triesL stem hs (k + 1) = triesL stem hs k ++ [⟨tryB stem k, try_size hs k⟩] := by unfold triesL; rw [List.range_succ, List.map_append]; rfl
theorem triesL_length (stem : ByteArray) (hs : stem.size ≤ 200) (k : Nat) : (triesL stem hs k).length = k := by simp [triesL]

/-- The last text that is tried has a - : it is no name. -/
theorem try_last (stem : ByteArray) : mayB (tryB stem 9223372036854775807) = false := by
  unfold tryB
  rw [if_neg (by omega)]
  exact no_name stem (by decide)

theorem lt_last {stem : ByteArray} {k : Nat} (hk : k < 9223372036854775808) (hm : mayB (tryB stem k) = true) : k < 9223372036854775807 := by
  rcases Nat.lt_or_ge k 9223372036854775807 with h | h
  · exact h
  · have e : k = 9223372036854775807 := by omega
    rw [e, try_last] at hm
    cases hm

theorem grown_below {w w' : World} (h : Below w.heap.size w w') (row : Option Nat) : w.grownBy w' row := ⟨h.os, h.tape, h.output, h.size, fun k hk _ => h.block k hk⟩

theorem w64 (z : Int) : wrap64 z = IntKind.i64.wrap z := by
  unfold wrap64 IntKind.wrap IntKind.bits IntKind.signed
  simp
  split <;> omega

/-- How many rounds are left, by the number that is next. -/
def leftN (n : Int) : Nat := if 0 ≤ n then (9223372036854775810 - n).toNat else (-9223372036854775806 - n).toNat

theorem leftN_wrap {k : Nat} (hk : k < 9223372036854775808) : (leftN (IntKind.i64.wrap ((k : Int) + 2)) : Int) = 9223372036854775808 - (k : Int) := by
  unfold leftN
  by_cases h : (k : Int) + 2 ≤ 9223372036854775807
  · rw [wrap_small (by omega) h, if_pos (by omega), Int.toNat_of_nonneg (by omega)]; omega
  · have e : IntKind.i64.wrap ((k : Int) + 2) = (k : Int) + 2 - 18446744073709551616 := by
      rw [← w64]; unfold wrap64; omega
    rw [e, if_neg (by omega), Int.toNat_of_nonneg (by omega)]; omega

theorem wrap_step (k : Nat) : IntKind.i64.wrap (IntKind.i64.wrap ((k : Int) + 2) + 1) = IntKind.i64.wrap (((k + 1 : Nat) : Int) + 2) := by
  unfold IntKind.wrap IntKind.bits IntKind.signed
  simp
  omega

theorem left_step {k : Nat} (hk : k < 9223372036854775807) : leftN (intOf (Value.int IntKind.i64 (wrap64 (wrap64 ((k : Int) + 2) + 1)))) < leftN (intOf (Value.int IntKind.i64 (IntKind.i64.wrap ((k : Int) + 2)))) := by
  have e : wrap64 (wrap64 ((k : Int) + 2) + 1) = IntKind.i64.wrap (((k + 1 : Nat) : Int) + 2) := by rw [w64, w64, wrap_step]
  have a := leftN_wrap (k := k) (by omega)
  have b := leftN_wrap (k := k + 1) (by omega)
  have c : ∀ z z' : Int, (leftN z : Int) = 9223372036854775808 - ((k + 1 : Nat) : Int) → (leftN z' : Int) = 9223372036854775808 - (k : Int) → leftN z < leftN z' := fun z z' h h' => by omega
  rw [e]
  exact c _ _ b a

/-- All that is tried ahead of k is a name. -/
def MayTo (stem : ByteArray) (k : Nat) : Prop := ∀ j, j < k → mayB (tryB stem j) = true
theorem MayTo.next {stem : ByteArray} {k : Nat} (h : MayTo stem k) (h1 : mayB (tryB stem k) = true) : MayTo stem (k + 1) := fun j hj => by
  rcases Nat.lt_succ_iff_lt_or_eq.1 hj with h' | rfl
  · exact h j h'
  · exact h1

theorem may_in {s : ByteArray} {b : Bool} (hs : s.size ≤ maxLen) (h : mayB s = b) (n : Nat) (w : World) : CallsIn Fence.wide n Tryd.prog 14 #[.string s] w fun e w' => e = .returned (.bool b) ∧ w' = w := by
  subst h
  exact callsIn_wide.2 (may_any s hs w)

set_option maxRecDepth 100000 in
set_option maxHeartbeats 1000000 in
theorem tries1_at (L : Int → Nat) (hL : ∀ k : Nat, k < 9223372036854775807 → L (intOf (Value.int IntKind.i64 (wrap64 (wrap64 ((k : Int) + 2) + 1)))) < L (intOf (Value.int IntKind.i64 (IntKind.i64.wrap ((k : Int) + 2))))) (n : Nat) (hn : 2 ≤ n) (l Bn n₀ : Nat) (stem : ByteArray) (hs : stem.size ≤ 200) {W0 : World} (hI : Inv W0) (J Jx : List Txt → World → Prop)
    (hY : ∀ pre (x : Txt) W, J pre W → pre.length < 9223372036854775808 → YieldAt Fence.wide (n - 1) Tryd.prog l #[.string x.1] W fun e W' =>
      (e = .returned (.bool true) ∧ J (pre ++ [x]) W' ∧ Below n₀ W W') ∨ (e = .returned (.bool false) ∧ Jx (pre ++ [x]) W'))
    (W : World) (hJ : AbidesFrom W.heap.size J) (hBn : Bn < n₀) (hn₀ : n₀ ≤ W.heap.size) (hW0 : W0.heap.size ≤ n₀) (hc : W.cell? ⟨Bn, 0, none⟩ = some (.string stem)) (hB0 : Below W0.heap.size W0 W) (h0 : J [] W) :
    CallsIn Fence.wide n Tryd.prog 31 #[.func (.yield l) #[] #[], .pointer (some ⟨Bn, 0, none⟩)] W fun e W' => (∃ v, e = .returned v) ∧
      ((∃ ys, (∃ k, k < 9223372036854775808 ∧ ys = triesL stem hs k ∧ MayTo stem k ∧ mayB (tryB stem k) = false) ∧ J ys W') ∨ (∃ pre, (∃ k, k < 9223372036854775808 ∧ pre = triesL stem hs (k + 1) ∧ MayTo stem (k + 1)) ∧ Jx pre W')) := by
  have hro : Fence.wide.round = none := rfl
  have hfn : Fence.wide.fn 31 := trivial
  refine callsIn_of_wp Tryd.func31 rfl hfn ?_ hro
  simp only [Tryd.ntmps31, List.size_toArray, List.length_cons, List.length_nil, Nat.reduceAdd, Nat.reduceSub, Array.replicate_succ, Array.replicate_zero, List.push_toArray, List.append_toArray, List.nil_append, List.cons_append]
  gi_wp2
  gi_loopw [3, 4] (fun x i wr => ∃ k : Nat, k < 9223372036854775808 ∧ x = .string (tryB stem k) ∧ i = .int .i64 (IntKind.i64.wrap ((k : Int) + 2)) ∧ J (triesL stem hs k) wr ∧ Below n₀ W wr ∧ MayTo stem k)
    (fun _ i _ => L (intOf i))
  case atStart => exact ⟨0, by omega, rfl, rfl, h0, Below.refl _ _, fun j h => by omega⟩
  case round =>
    obtain ⟨k, hk, rfl, rfl, hJr, hBr, hTo⟩ := hrel
    have hcr : wr.cell? ⟨Bn, 0, none⟩ = some (.string stem) := (hBr.cell (p := ⟨Bn, 0, none⟩) hBn).trans hc
    have hsz := try_size hs k
    cases hm : mayB (tryB stem k) with
    | false =>
      gi_wp2_with fail
      refine ⟨trivial, fun _ => by omega, ?_⟩
      refine (may_in hsz hm _ _).mono ?_
      rintro e w' ⟨rfl, rfl⟩
      gi_wp2_with fail
      refine ⟨fun _ h => (by cases h), ?_⟩
      gi_wp2
      go_end0
      exact ⟨⟨_, rfl⟩, .inl ⟨_, ⟨k, hk, rfl, hTo, hm⟩, hJr⟩⟩
    | true =>
      obtain ⟨fn, tmps, assign, body, hy, hR⟩ := hY _ ⟨tryB stem k, try_size hs k⟩ wr hJr (by rw [triesL_length]; omega)
      dsimp only at hy
      gi_wp2_with fail
      refine ⟨trivial, fun _ => by omega, ?_⟩
      refine (may_in hsz hm _ _).mono ?_
      rintro e w' ⟨rfl, rfl⟩
      gi_wp2_with fail
      refine ⟨fun _ => by omega, hR.mono ?_⟩
      rintro e W' (⟨rfl, hJ3, hk3⟩ | ⟨rfl, hJx3⟩)
      · have hc3 : W'.cell? ⟨Bn, 0, none⟩ = some (.string stem) := (hk3.cell (p := ⟨Bn, 0, none⟩) hBn).trans hcr
        have hb3 : Below n₀ W W' := hBr.trans hk3
        have hlast := lt_last hk hm
        have hbd : Below W0.heap.size W0 W'.drew := (hB0.trans (hb3.mono hW0)).drew
        have hwn := wrap_bounds ((k : Int) + 2)
        have hsh := shB_short _ hwn.1 hwn.2
        have hcat : stem.size + (shB (IntKind.i64.wrap ((k : Int) + 2))).size ≤ maxLen := by unfold maxLen; omega
        gi_wp2_with fail
        gi_region_with (refine ⟨trivial, fun _ => by omega, ?_⟩; refine (callsIn_wide.2 (show_sh hI _ hwn.1 hwn.2 _ hbd)).mono ?_; rintro e W4 ⟨rfl, hb4⟩; have hc4 : W4.cell? ⟨Bn, 0, none⟩ = some (.string stem) := (hb4.cell (p := ⟨Bn, 0, none⟩) (by show Bn < W'.heap.size; have := hb3.size; omega)).trans hc3)
        all_goals
          have hJ4 : J (triesL stem hs (k + 1)) W4 := by rw [triesL_succ]; exact hJ _ W'.drew W4 none (hJ _ W' W'.drew none hJ3 ⟨rfl, rfl, rfl, Nat.le_refl _, fun _ _ _ => rfl⟩ (fun r e => by cases e)) (grown_below hb4 none) (fun r e => by cases e)
          gi_wp2
          go_roundw
          case rel => exact ⟨k + 1, by omega, by rw [try_next, w64], by rw [← wrap_step, w64, w64], hJ4, hb3.trans ((Below.refl n₀ W').drew.trans (hb4.mono (by show n₀ ≤ W'.heap.size; have := hb3.size; omega))), hTo.next hm⟩
          case measure => exact hL k hlast
      · gi_wp2
        go_end0
        exact ⟨⟨_, rfl⟩, .inr ⟨_, ⟨k, hk, (triesL_succ stem hs k).symm, hTo.next hm⟩, hJx3⟩⟩

set_option maxHeartbeats 1000000 in
/-- tries(stem): the stem is boxed; the function value captures the box. -/
theorem tries_in (n : Nat) (stem : ByteArray) (w : World) :
    CallsIn Fence.wide n Tryd.prog 28 #[.string stem] w fun e w' => e = .returned (.func (.func 31) #[] #[.pointer (some ⟨w.heap.size, 0, none⟩)]) ∧ w' = w.alloc (.cells #[.string stem] 9) := by
  refine callsIn_of_wp Tryd.func28 rfl trivial ?_ rfl
  simp only [Tryd.ntmps28, List.size_toArray, List.length_cons, List.length_nil, Nat.reduceAdd, Nat.reduceSub, Array.replicate_succ, Array.replicate_zero, List.push_toArray, List.append_toArray, List.nil_append, List.cons_append]
  gi_wp2
  go_ret
  exact ⟨rfl, rfl⟩

theorem tries_stops (n : Nat) (hn : 2 ≤ n) (Bn n₀ : Nat) (stem : ByteArray) (hs : stem.size ≤ 200) {W0 : World} (hI : Inv W0) (w : World) (hBn : Bn < n₀) (hn₀ : n₀ ≤ w.heap.size) (hW0 : W0.heap.size ≤ n₀)
    (hc : w.cell? ⟨Bn, 0, none⟩ = some (.string stem)) (hB0 : Below W0.heap.size W0 w) :
    SeqStopsK Fence.wide n Tryd.prog 31 #[.pointer (some ⟨Bn, 0, none⟩)] (fun x : Txt => #[Value.string x.1]) (Below n₀)
      (fun ys => ∃ k, k < 9223372036854775808 ∧ ys = triesL stem hs k ∧ MayTo stem k ∧ mayB (tryB stem k) = false) (fun pre => ∃ k, k < 9223372036854775808 ∧ pre = triesL stem hs (k + 1) ∧ MayTo stem (k + 1)) 9223372036854775808 w := fun l J Jx W hW hJ _ hY h0 =>
  tries1_at leftN (fun _ hk => left_step hk) n hn l Bn n₀ stem hs hI J Jx hY W hJ hBn (by have := hW.size; omega) hW0 ((hW.cell (p := ⟨Bn, 0, none⟩) (by show Bn < w.heap.size; omega)).trans hc) (hB0.trans (hW.mono (by omega))) h0
end Go.Proofs.YtnonpolifipblaaDoor
