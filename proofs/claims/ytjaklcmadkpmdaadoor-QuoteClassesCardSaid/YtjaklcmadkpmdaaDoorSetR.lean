/- The iterator over a set's bytes, and the two functions that range over it: List and Runs; for every set. -/
import Derived.RangeFuncNested
import Derived.RangeFuncBound
import Derived.RangeFuncCalls
import Derived.RangeFuncLeaves
import Derived.RangeFuncBox
import Derived.Shelf.Abstract
import Derived.Shelf.RegionOpen
import Derived.WalkKit
import Derived.OwnWalkIn
import Derived.TacticsInMore
import Derived.LoopNIn
import Derived.LoopIn
import Derived.Maps.AppendAt
import Derived.Lib.BufferRead
import Derived.Laws.IdiomStrings
import Derived.Test.YtjaklcmadkpmdaaDoorSetW
section
namespace Go.Proofs.YtjaklcmadkpmdaaDoor
open Go.RowKit Go.Shelf

attribute [local go_sem] Oper.semAt_some

/-- The table of trailing zeros, as its initialiser lays it. -/
def Tab (w : World) : Prop := TabAt 0 Lib.deBruijn64tab w
theorem Tab.lt {w : World} (h : Tab w) : 0 < w.heap.size := by
  have h0 := h 0 (by decide)
  unfold World.cell? at h0
  split at h0
  · rename_i heq; exact (Array.getElem?_eq_some_iff.1 heq).1
  · cases h0
theorem Tab.below {B : Nat} {W W' : World} (h : Tab W) (hb : Below B W W') (hB : 0 < B) : Tab W' := fun j hj => (hb.cell (p := ⟨0, j, none⟩) hB).trans (h j hj)

theorem and_pred (y : Nat) (hy : y < 18446744073709551616) (h0 : y ≠ 0) : bits BinOp.and IntKind.u64 (y : Int) ((y : Int) - 1) = ((y &&& (y - 1) : Nat) : Int) := by
  rw [show (y : Int) - 1 = ((y - 1 : Nat) : Int) by omega, u64_and_nat _ _ hy (by omega)]

/-- The bytes of a set. -/
def lstB (s : S4) : List UInt8 := s.lst.map UInt8.ofNat

theorem idx_w (s : S4) (i : Nat) (hi : i < 4) (w : World) : (Instr.index 31 (.agg #[.int .u64 s.a, .int .u64 s.b, .int .u64 s.c, .int .u64 s.d]) (.int .i64 i)).run Tryd.prog w = .ok (.int .u64 (s.w i)) w := by
  have h : i = 0 ∨ i = 1 ∨ i = 2 ∨ i = 3 := by omega
  rcases h with rfl | rfl | rfl | rfl
  · exact idx_0 _ _ _ _ w
  · exact idx_1 _ _ _ _ w
  · exact idx_2 _ _ _ _ w
  · exact idx_3 _ _ _ _ w

theorem lstTo_prefix (s : S4) {k : Nat} (hk : k ≤ 4) : lstTo s k <+: s.lst := by
  unfold lstTo S4.lst
  obtain ⟨m, hm⟩ : ∃ m, 256 = 64 * k + m := ⟨256 - 64 * k, by omega⟩
  rw [hm, List.range_add, List.filter_append]
  exact List.prefix_append _ _

set_option maxRecDepth 100000 in
set_option maxHeartbeats 1000000 in
theorem each1_in (n : Nat) (hn : 2 ≤ n) (l Bn n₀ : Nat) (s : S4) (hs : s.ok) (J Jx : List UInt8 → World → Prop) (hg : 0 < n₀)
    (hY : ∀ pre x W, J pre W → pre.length < s.lst.length → YieldAt Fence.wide (n - 1) Tryd.prog l #[.int .u8 x.toNat] W fun e W' =>
      (e = .returned (.bool true) ∧ J (pre ++ [x]) W' ∧ Below n₀ W W') ∨ (e = .returned (.bool false) ∧ Jx (pre ++ [x]) W'))
    (W : World) (hBn : Box4 W Bn s) (hT : Tab W) (h0 : J [] W) :
    CallsIn Fence.wide n Tryd.prog 58 #[.func (.yield l) #[] #[], .pointer (some ⟨Bn, 0, none⟩)] W fun e W' => (∃ v, e = .returned v) ∧
      ((∃ ys, ys = lstB s ∧ J ys W') ∨ (∃ pre, pre <+: lstB s ∧ Jx pre W')) := by
  obtain ⟨c0, c1, c2, c3⟩ := hBn.cells
  have hro : Fence.wide.round = none := rfl
  have hfn : Fence.wide.fn 58 := trivial
  refine callsIn_of_wp Tryd.func58 rfl hfn ?_ hro
  simp only [Tryd.ntmps58, List.size_toArray, List.length_cons, List.length_nil, Nat.reduceAdd, Nat.reduceSub, Array.replicate_succ, Array.replicate_zero, List.push_toArray, List.append_toArray, List.nil_append, List.cons_append]
  gi_wp2
  clear c0 c1 c2 c3
  gi_loopw [6] (fun i wr => ∃ k : Nat, k ≤ 4 ∧ i = .int .i64 k ∧ J ((lstTo s k).map UInt8.ofNat) wr ∧ Tab wr)
    (fun i _ => 4 - (intOf i).toNat)
  case atStart => exact ⟨0, by omega, rfl, h0, hT⟩
  case round =>
    obtain ⟨k, hk, rfl, hJ, hTr⟩ := hrel
    by_cases hlt : k < 4
    · have hix := idx_w s k hlt
      have hwk := S4.w_lt hs k
      have hdk : decide ((k : Int) < 4) = true := by simp; omega
      gi_wp2
      clear hix
      obtain ⟨wo, rfl⟩ : ∃ wo : World, wo = wr := ⟨_, rfl⟩
      gi_loopw [4] (fun x wr => ∃ (y : Nat) (part : List Nat), x = .int .u64 y ∧ y < 18446744073709551616 ∧ part ++ wl y = wl (s.w k) ∧ J ((lstTo s k ++ part.map (fun j => 64 * k + j)).map UInt8.ofNat) wr ∧ Tab wr)
        (fun x _ => (intOf x).toNat)
      case atStart => exact ⟨s.w k, [], rfl, hwk, rfl, by simpa using hJ, hTr⟩
      case round =>
        clear hJ hTr hwk
        obtain ⟨y, part, rfl, hy64, hp, hJ, hTr⟩ := hrel
        have HP := Lib.hid hp
        clear hp
        by_cases hy0 : y = 0
        · subst hy0
          gi_wp2
          go_roundw
          case rel =>
            refine ⟨k + 1, by omega, by go_num, ?_, hTr⟩
            have hp := HP.out
            rw [wl_zero, List.append_nil] at hp
            rw [lstTo_succ, ← hp]
            exact hJ
          case measure => simp [intOf]; omega
        · obtain ⟨c, hc⟩ : ∃ c, Lib.ctz 64 y = c := ⟨_, rfl⟩
          have hstep := wl_step hy0 hy64
          rw [hc] at hstep
          have hc64 : c < 64 := by rw [← hc]; exact (clear_low hy0 hy64).1
          have HC := Lib.hid hc
          have HS := Lib.hid hstep
          clear hc hstep
          have hpre : (lstTo s k ++ part.map (fun j => 64 * k + j)) ++ [64 * k + c] <+: s.lst := by
            refine List.IsPrefix.trans ?_ (lstTo_prefix s (k := k + 1) (by omega))
            rw [lstTo_succ, ← HP.out, HS.out]
            exact ⟨(wl (y &&& (y - 1))).map (fun j => 64 * k + j), by simp⟩
          have hlen : (((lstTo s k ++ part.map (fun j => 64 * k + j)).map UInt8.ofNat)).length < s.lst.length := by
            have := hpre.length_le
            simp only [List.length_append, List.length_cons, List.length_nil, List.length_map] at this ⊢
            omega
          have e1 : (UInt8.ofNat (64 * k + c)).toNat = 64 * k + c := by
            rw [UInt8.toNat_ofNat']; omega
          have e2 : ((UInt8.ofNat (64 * k + c)).toNat : Int) = 64 * (k : Int) + (c : Int) := by rw [e1]; omega
          obtain ⟨fn, tmps, assign, body, hy, hR⟩ := hY _ (UInt8.ofNat (64 * k + c)) wr hJ hlen
          rw [e2] at hy
          have hpos : (y : Int) ≠ 0 := by omega
          have hb1 : ((y : Int) != 0) = true := by simp; omega
          clear e1 e2 hlen
          gi_wp2_with fail
          refine ⟨trivial, fun _ => by omega, ?_⟩
          refine (callsIn_wide.2 (tz_any y hy64 hy0 _ hTr)).mono ?_
          rintro e w' ⟨rfl, rfl⟩
          rw [HC.out]
          gi_wp2_with fail
          refine ⟨fun _ => by omega, hR.mono ?_⟩
          rintro e W' (⟨rfl, hJ3, hk3⟩ | ⟨rfl, hJx3⟩)
          · have hT3 := hTr.below hk3 hg
            have hlow := Lib.hid (and_pred y hy64 hy0)
            gi_wp2
            go_roundw
            case rel =>
              refine ⟨y &&& (y - 1), part ++ [c], ?_, Nat.lt_of_le_of_lt Nat.and_le_left hy64, ?_, ?_, hT3⟩
              · rw [hlow.out]
              · rw [← HP.out, HS.out]; simp
              · simpa using hJ3
            case measure =>
              have := low_lt hy0
              rw [hlow.out]; simp [intOf]; omega
          · gi_wp2
            refine bodyPost_ret (results_none rfl _ _ _) rfl ?_
            refine ⟨⟨_, rfl⟩, .inr ⟨_, ?_, hJx3⟩⟩
            have := hpre.map UInt8.ofNat
            simpa [lstB] using this
    · obtain rfl : k = 4 := by omega
      gi_wp2
      go_end0
      exact ⟨⟨_, rfl⟩, .inl ⟨_, rfl, by rw [lstTo_four] at hJ; exact hJ⟩⟩

set_option maxHeartbeats 1000000 in
/-- each(s): the set is boxed; the function value captures the box. -/
theorem each_in (n : Nat) (s : S4) (w : World) :
    CallsIn Fence.wide n Tryd.prog 49 #[s.v] w fun e w' => e = .returned (.func (.func 58) #[] #[.pointer (some ⟨w.heap.size, 0, none⟩)]) ∧ w' = w.alloc (.cells #[.int .u64 s.a, .int .u64 s.b, .int .u64 s.c, .int .u64 s.d] 31) := by
  refine callsIn_of_wp Tryd.func49 rfl trivial ?_ rfl
  simp only [Tryd.ntmps49, List.size_toArray, List.length_cons, List.length_nil, Nat.reduceAdd, Nat.reduceSub, Array.replicate_succ, Array.replicate_zero, List.push_toArray, List.append_toArray, List.nil_append, List.cons_append]
  gi_wp2
  go_ret
  exact ⟨rfl, rfl⟩

theorem each_stops (n : Nat) (hn : 2 ≤ n) (Bn n₀ : Nat) (s : S4) (hs : s.ok) (w : World) (hBn : Bn < w.heap.size) (hc : Box4 w Bn s) (hT : Tab w) (hg : 0 < n₀) :
    SeqStopsK Fence.wide n Tryd.prog 58 #[.pointer (some ⟨Bn, 0, none⟩)] (fun x : UInt8 => #[Value.int .u8 x.toNat]) (Below n₀) (fun ys => ys = lstB s) (fun pre => pre <+: lstB s) s.lst.length w := fun l J Jx W hW _ _ hY h0 =>
  each1_in n hn l Bn n₀ s hs J Jx hg hY W (hc.below hW hBn) (hT.below hW hT.lt) h0
theorem info_u8 : (Tryd.prog.info? 5).map (fun i => (i.zero, i.size, i.bytes)) = some (some (.int .u8 0), 1, 1) := by kernel_rfl
/-- A byte, as Go holds it. -/
def byteV (x : UInt8) : Value := .int .u8 x.toNat

theorem conv_own {W : World} {B : Nat} {v : Value} (l : List UInt8) (h : W.ownsRow B 5 1 v l.length (l.map byteV)) :
    (convert 45 9 v).run Tryd.prog W = .ok (.string ⟨l.toArray⟩) W := by
  have h' := h
  obtain ⟨h1, ⟨rfl, h0⟩ | ⟨g, cap, cur, rfl, hg, hh, hn, hc, hsz, ht⟩⟩ := h
  · obtain rfl : l = [] := List.length_eq_zero_iff.1 h0
    exact Lib.run_convert_nil_bytes W _ _ 5 0 Tryd.underlying45 Tryd.underlying5 Tryd.underlying9
  · refine run_convert_bytes_back W _ _ 5 ⟨g, 0, none⟩ cap l Tryd.underlying45 Tryd.underlying5 Tryd.underlying9 fun j hj => ?_
    exact h'.cells rfl j _ (by simp [byteV, hj])

end Go.Proofs.YtjaklcmadkpmdaaDoor
end
section
namespace Go.Proofs.YtjaklcmadkpmdaaDoor
open Go.RowKit Go.Shelf

attribute [local go_sem] Oper.semAt_some

/-- A byte more, behind the runs of lesser ones. -/
def addRun (l : List (UInt8 × UInt8)) (b : UInt8) : List (UInt8 × UInt8) :=
  match l.getLast? with
  | some p => if p.2.toNat + 1 = b.toNat then l.dropLast ++ [(p.1, b)] else l ++ [(b, b)]
  | none => l ++ [(b, b)]
/-- The runs of rising bytes. -/
def rs (l : List UInt8) : List (UInt8 × UInt8) := l.foldl addRun []
theorem rs_snoc (l : List UInt8) (b : UInt8) : rs (l ++ [b]) = addRun (rs l) b := by simp [rs]
theorem addRun_nil (b : UInt8) : addRun [] b = [(b, b)] := rfl
theorem addRun_on (l : List (UInt8 × UInt8)) (p : UInt8 × UInt8) (b : UInt8) (h : p.2.toNat + 1 = b.toNat) : addRun (l ++ [p]) b = l ++ [(p.1, b)] := by simp [addRun, h]
theorem addRun_new (l : List (UInt8 × UInt8)) (p : UInt8 × UInt8) (b : UInt8) (h : p.2.toNat + 1 ≠ b.toNat) : addRun (l ++ [p]) b = l ++ [p] ++ [(b, b)] := by simp [addRun, h]
theorem addRun_len (l : List (UInt8 × UInt8)) (b : UInt8) : (addRun l b).length ≤ l.length + 1 := by
  rcases List.eq_nil_or_concat l with rfl | ⟨m, p, rfl⟩
  · simp [addRun_nil]
  · rw [List.concat_eq_append]
    by_cases h : p.2.toNat + 1 = b.toNat
    · rw [addRun_on _ _ _ h]; simp
    · rw [addRun_new _ _ _ h]; simp
theorem foldl_len : ∀ (l : List UInt8) (m : List (UInt8 × UInt8)), (l.foldl addRun m).length ≤ m.length + l.length
  | [], m => by simp
  | b :: l, m => by
    have h1 := foldl_len l (addRun m b)
    have h2 := addRun_len m b
    simp only [List.foldl_cons, List.length_cons]
    omega
theorem rs_len (l : List UInt8) : (rs l).length ≤ l.length := by
  have := foldl_len l []
  simp only [List.length_nil, Nat.zero_add] at this
  exact this
/-- Runs, as Go holds them. -/
def runsV (l : List (UInt8 × UInt8)) : List Value := l.flatMap fun p => [byteV p.1, byteV p.2]
theorem runsV_append (l m : List (UInt8 × UInt8)) : runsV (l ++ m) = runsV l ++ runsV m := by simp [runsV]
theorem runsV_len (l : List (UInt8 × UInt8)) : (runsV l).length = l.length * 2 := by
  induction l with
  | nil => rfl
  | cons p l ih => simp only [runsV, List.flatMap_cons, List.length_append, List.length_cons, List.length_nil] at ih ⊢; omega

theorem info_run : (Tryd.prog.info? 68).map (fun i => (i.zero, i.size, i.bytes)) = some (some (.agg #[.int .u8 0, .int .u8 0]), 2, 2) := by kernel_rfl
theorem cell_two_new (w : World) (x y : Value) (t : TypeId) : ∀ j u, [x, y][j]? = some u → (w.alloc (.cells #[x, y] t)).cell? ((⟨w.heap.size, 0, none⟩ : Addr).add j) = some u := by
  intro j u hj
  match j, hj with
  | 0, hj => simp at hj; subst hj; simp [Addr.add]
  | 1, hj => simp at hj; subst hj; simp [Addr.add]

/-- A box beside a row of another kind lies in another block; and the row lies from its base on. -/
theorem box_ne {W : World} {B n₀ : Nat} {t e : TypeId} {size : Nat} {v : Value} {g n cap k : Nat} {xs : List Value} (hv : Boxed W B t v) (hte : t ≠ e) (hrow : W.ownsRow n₀ e size (.slice (some ⟨g, 0, none⟩) n cap) k xs) : B ≠ g ∧ n₀ ≤ g := by
  obtain ⟨_, ⟨h, _⟩ | ⟨g', cap', cur, h, hg, hh, _⟩⟩ := hrow
  · cases h
  · simp only [Value.slice.injEq, Option.some.injEq, Addr.mk.injEq, and_true] at h
    obtain ⟨rfl, _, _⟩ := h
    refine ⟨?_, hg⟩
    rintro rfl
    rw [show W.heap[B]? = _ from hv] at hh
    cases hh
    exact hte rfl

set_option maxRecDepth 100000 in
set_option maxHeartbeats 2000000 in
theorem runs_in (s : S4) (hs : s.ok) (w : World) (hT : Tab w) :
    CallsIn Fence.wide 4 Tryd.prog 31 #[s.v] w fun e W' => ∃ v, e = .returned v ∧ W'.ownsRow w.heap.size 68 2 v (rs (lstB s)).length (runsV (rs (lstB s))) ∧ Below w.heap.size w W' := by
  have hlen : s.lst.length ≤ 256 := by
    have := List.length_filter_le s.has (List.range 256)
    rw [List.length_range] at this
    exact this
  have hg := hT.lt
  obtain ⟨i0, hi, hz0, hz1, hz2⟩ := info_parts info_run
  have hro : Fence.wide.round = none := rfl
  refine callsIn_of_wp_marks Tryd.func31 rfl trivial ?_ hro
  simp only [Tryd.ntmps31, List.size_toArray, List.length_cons, List.length_nil, Nat.reduceAdd, Nat.reduceSub, Array.replicate_succ, Array.replicate_zero, List.push_toArray, List.append_toArray, List.nil_append, List.cons_append]
  gi_wp2_with fail
  refine ⟨trivial, (each_in 3 s _).mono ?_⟩
  rintro e w' ⟨rfl, rfl⟩
  gi_wp2_with fail
  have b0 := Box4.new w s
  have b1 := Boxed.new (w.alloc (.cells #[.int .u64 s.a, .int .u64 s.b, .int .u64 s.c, .int .u64 s.d] 31)) 66 (.slice none 0 0)
  have b2 := Box4.new ((w.alloc (.cells #[.int .u64 s.a, .int .u64 s.b, .int .u64 s.c, .int .u64 s.d] 31)).alloc (.cells #[.slice none 0 0] 66)) s
  rw [World.size_alloc] at b1
  rw [World.size_alloc, World.size_alloc] at b2
  have hB0 : Below w.heap.size w (((w.alloc (.cells #[.int .u64 s.a, .int .u64 s.b, .int .u64 s.c, .int .u64 s.d] 31)).alloc (.cells #[.slice none 0 0] 66)).alloc (.cells #[.int .u64 s.a, .int .u64 s.b, .int .u64 s.c, .int .u64 s.d] 31)) := (((Below.refl _ w).alloc (Nat.le_refl _) _).alloc (by simp) _).alloc (by simp; omega) _
  refine wpIn_rangeFunc_ownG hro (by omega) (gf := 58) (lb := #[.pointer (some ⟨w.heap.size + 1 + 1, 0, none⟩)]) rfl trivial (enters_of Tryd.func58 (by kernel_rfl) rfl)
    (each_stops 3 (by omega) (w.heap.size + 1 + 1) w.heap.size s hs _ (by simp) b2 (hT.below hB0 hg) hg) belowK_t (belowK_b (by simp; omega)) (Below.refl _ _) (fun _ => rfl)
    (fun pre W => (∃ v, Boxed W (w.heap.size + 1) 66 v ∧ W.ownsRow w.heap.size 68 2 v (rs pre).length (runsV (rs pre)) ∧ (v = .slice none 0 0 ↔ rs pre = [])) ∧ Below w.heap.size w W)
    (fun _ _ _ => False)
    (OwnFrom.and (Own.from (holdsRow_own w.heap.size (w.heap.size + 1) 66 68 2 (fun pre => (rs pre).length) (fun pre => runsV (rs pre)) (fun pre v => v = .slice none 0 0 ↔ rs pre = [])) _) (ownFrom_below (Nat.le_refl _) (by simp; omega)))
    (fun _ _ _ _ _ hs _ _ => hs)
    ⟨⟨_, b1.alloc _, World.ownsRow_nil _ _ _ _, by simp [rs]⟩, hB0⟩
    (fun x => { tmps := #[s.v, .pointer (some ⟨w.heap.size, 0, none⟩), .slice none 0 0, .pointer (some ⟨w.heap.size + 1, 0, none⟩), .int .u8 x.toNat, undef, .agg #[.int .u64 s.a, .int .u64 s.b, .int .u64 s.c, .int .u64 s.d], .func (.func 58) #[] #[.pointer (some ⟨w.heap.size + 1 + 1, 0, none⟩)], .int .u8 x.toNat, undef, undef, undef, undef, undef, undef, undef, undef, undef, undef, undef, undef, undef, undef, undef, undef, undef, undef, undef, undef, undef, undef, undef, undef, undef, undef, undef, undef, undef], defers := [] }) ?assign ?body ?done ?stop
  case assign =>
    intro l x W K hK
    gi_wp2
    exact hK
  case body =>
    rintro l pre x W ⟨⟨v, hv, hrow, hnil⟩, hB⟩ hlt
    clear b0 b1 b2 hB0
    have hc := hv.cell
    have hrl := rs_len pre
    have hx256 := x.toNat_lt
    rcases List.eq_nil_or_concat (rs pre) with hn | ⟨m, p, hn⟩
    · rw [hn] at hrow
      have hv0 := hnil.2 hn
      subst hv0
      have HN := Lib.hid (show rs (pre ++ [x]) = [(x, x)] by rw [rs_snoc, hn]; rfl)
      clear hnil hn
      have hrow : W.ownsRow w.heap.size 68 2 (.slice none 0 0) 0 [] := hrow
      gi_wp2_with (gi_at_builtin; refine wpListIn_append_own _ rfl _ _ 66 rfl w.heap.size 68 i0 (.agg #[.int .u8 0, .int .u8 0]) 2 2 Tryd.underlying66 hi hz0 hz1 hz2 rfl (by decide) _ _ _ rfl (hrow.alloc _) ⟨W.heap.size, 0, none⟩ 1 1 [.int .u8 x.toNat, .int .u8 x.toNat] rfl rfl (cell_two_new _ _ _ _) (by simp [Value.oneCell']) (by unfold maxLen; omega) (by omega) (by have := hB.size; simp; omega) ?_; intro v' w1 hown' hgrow _; obtain ⟨g', cap', rfl⟩ := ownsRow_succ hown'; obtain ⟨hv1, hv2, hr2, hk2, hb2⟩ := hv.appended (by decide) hrow hB.size (by omega) hown' hgrow; have hc1 := hv1.cell; have hf1 := hv1.frozen)
      exact ⟨hk2.from _, hb2, ⟨_, hv2, by rw [HN.out]; exact hr2, by rw [HN.out]; simp⟩, hB.trans hb2⟩
    · rw [List.concat_eq_append] at hn
      rw [hn] at hrow
      have hlen2 : m.length + 1 ≤ pre.length := by rw [hn] at hrl; simpa using hrl
      obtain ⟨M, hM⟩ : ∃ M, m.length = M := ⟨_, rfl⟩
      have hml : (m ++ [p]).length = M + 1 := by simp [hM]
      rw [hml] at hrow
      obtain ⟨g, cap, rfl⟩ := ownsRow_succ hrow
      obtain ⟨hne, hbg⟩ := box_ne hv (by decide) hrow
      have hcz : W.cell? ⟨g, M * 2 + 1, none⟩ = some (byteV p.2) := by
        rw [hrow.cellAt _ (by omega), runsV_append, List.getElem?_append_right (by rw [runsV_len]; omega), runsV_len, hM, show M * 2 + 1 - M * 2 = 1 by omega]
        rfl
      unfold byteV at hcz
      have hM256 : M + 1 ≤ 256 := by omega
      have hMp : M ≤ pre.length := by omega
      clear hnil
      by_cases hz : p.2.toNat + 1 = x.toNat
      · have HN := Lib.hid (show rs (pre ++ [x]) = m ++ [(p.1, x)] by rw [rs_snoc, hn, addRun_on _ _ _ hz])
        have hze : (((p.2.toNat : Int) + 1) == (x.toNat : Int)) = true := by simp; omega
        have hp256 := p.2.toNat_lt
        have hml' := Lib.hid hM
        have hfz := hrow.frozenAt (M * 2 + 1)
        clear hn hM hml
        gi_wp2
        obtain ⟨hs1, hs2⟩ := hrow.stored (M * 2 + 1) (.int .u8 x.toNat)
        refine ⟨(KeepsOthers.setCell _ _ _).from _, (Below.refl _ _).setCell hbg _, ⟨.slice (some ⟨g, 0, none⟩) (M + 1) cap, ?_, ?_, ?_⟩, hB.setCell hbg _⟩
        · exact (Below.heap_setCell _ _ _ _ hne).trans hv
        · have e : (m ++ [(p.1, x)]).length = M + 1 := by simp [hml'.out]
          have e2 : (runsV (m ++ [p])).set (M * 2 + 1) (.int .u8 x.toNat) = runsV (m ++ [(p.1, x)]) := by
            rw [runsV_append, runsV_append, List.set_append_right _ _ (by rw [runsV_len, hml'.out]; omega), runsV_len, hml'.out, show M * 2 + 1 - M * 2 = 1 by omega]
            rfl
          rw [HN.out, e, ← e2]
          exact hs1
        · rw [HN.out]; simp
      · have HN := Lib.hid (show rs (pre ++ [x]) = m ++ [p] ++ [(x, x)] by rw [rs_snoc, hn, addRun_new _ _ _ hz])
        have hze : (((p.2.toNat : Int) + 1) == (x.toNat : Int)) = false := by simp; omega
        have hp256 := p.2.toNat_lt
        have hml' := Lib.hid hM
        clear hn hM hml
        gi_wp2_with (gi_at_builtin; refine wpListIn_append_own _ rfl _ _ 66 rfl w.heap.size 68 i0 (.agg #[.int .u8 0, .int .u8 0]) 2 2 Tryd.underlying66 hi hz0 hz1 hz2 rfl (by decide) _ _ _ rfl (hrow.alloc _) ⟨W.heap.size, 0, none⟩ 1 1 [.int .u8 x.toNat, .int .u8 x.toNat] rfl rfl (cell_two_new _ _ _ _) (by simp [Value.oneCell']) (by unfold maxLen; omega) (by omega) (by have := hB.size; simp; omega) ?_; intro v' w1 hown' hgrow _; obtain ⟨g', cap', rfl⟩ := ownsRow_succ hown'; obtain ⟨hv1, hv2, hr2, hk2, hb2⟩ := hv.appended (by decide) hrow hB.size (by omega) hown' hgrow; have hc1 := hv1.cell; have hf1 := hv1.frozen)
        have e : (m ++ [p] ++ [(x, x)]).length = M + 1 + 1 := by simp [hml'.out]
        refine ⟨hk2.from _, hb2, ⟨_, hv2, ?_, ?_⟩, hB.trans hb2⟩
        · rw [HN.out, runsV_append, e]; exact hr2
        · rw [HN.out]; simp
  case done =>
    rintro D ys W hD rfl ⟨⟨v, hv, hrow, hnil⟩, hB⟩ hK
    have hc := hv.cell
    gi_wp2
    refine ⟨by simp, .inl ⟨_, _, rfl, run_takeDeferred hK, ?_⟩⟩
    exact ⟨_, results_tmp rfl _ _ _, v, rfl, ownsRow_putObj hrow _ hK rfl, hB.trans (belowK_b (w := w) (Nat.le_refl _) W D _ _ (by simp at hD; omega) hK rfl rfl)⟩
  case stop =>
    rintro D c pre W _ _ h _
    exact h.elim
end Go.Proofs.YtjaklcmadkpmdaaDoor
end
