/- The runs of a set: what the function Runs hands back, for every set. -/
import Derived.Test.YtjaklcmadkpmdaaDoorSetI
namespace Go.Proofs.YtjaklcmadkpmdaaDoor
open Go.RowKit Go.Shelf

attribute [local go_sem] Oper.semAt_some

/-- A byte more, behind the runs of lesser ones. -/
def addRun (l : List (UInt8 × UInt8)) (b : UInt8) : List (UInt8 × UInt8) :=
  match l.getLast? with
  | some p => if p.2.toNat + 1 = b.toNat then l.dropLast ++ [(p.1, b)] else l ++ [(b, b)]
  | none => l ++ [(b, b)]
/-- The runs of rising bytes. -/
def rs (l : List UInt8) : List (UInt8 × UInt8) := l.foldl addRun []
theorem rs_snoc (l : List UInt8) (b : UInt8) : rs (l ++ [b]) = addRun (rs l) b := by simp [rs]
theorem addRun_nil (b : UInt8) : addRun [] b = [(b, b)] := rfl
theorem addRun_on (l : List (UInt8 × UInt8)) (p : UInt8 × UInt8) (b : UInt8) (h : p.2.toNat + 1 = b.toNat) : addRun (l ++ [p]) b = l ++ [(p.1, b)] := by simp [addRun, h]
theorem addRun_new (l : List (UInt8 × UInt8)) (p : UInt8 × UInt8) (b : UInt8) (h : p.2.toNat + 1 ≠ b.toNat) : addRun (l ++ [p]) b = l ++ [p] ++ [(b, b)] := by simp [addRun, h]
theorem addRun_len (l : List (UInt8 × UInt8)) (b : UInt8) : (addRun l b).length ≤ l.length + 1 := by
  rcases List.eq_nil_or_concat l with rfl | ⟨m, p, rfl⟩
  · simp [addRun_nil]
  · rw [List.concat_eq_append]
    by_cases h : p.2.toNat + 1 = b.toNat
    · rw [addRun_on _ _ _ h]; simp
    · rw [addRun_new _ _ _ h]; simp
theorem foldl_len : ∀ (l : List UInt8) (m : List (UInt8 × UInt8)), (l.foldl addRun m).length ≤ m.length + l.length
  | [], m => by simp
  | b :: l, m => by
    have h1 := foldl_len l (addRun m b)
    have h2 := addRun_len m b
    simp only [List.foldl_cons, List.length_cons]
    omega
theorem rs_len (l : List UInt8) : (rs l).length ≤ l.length := by
  have := foldl_len l []
  simp only [List.length_nil, Nat.zero_add] at this
  exact this
/-- Runs, as Go holds them. -/
def runsV (l : List (UInt8 × UInt8)) : List Value := l.flatMap fun p => [byteV p.1, byteV p.2]
theorem runsV_append (l m : List (UInt8 × UInt8)) : runsV (l ++ m) = runsV l ++ runsV m := by simp [runsV]
theorem runsV_len (l : List (UInt8 × UInt8)) : (runsV l).length = l.length * 2 := by
  induction l with
  | nil => rfl
  | cons p l ih => simp only [runsV, List.flatMap_cons, List.length_append, List.length_cons, List.length_nil] at ih ⊢; omega

theorem info_run : (Tryd.prog.info? 68).map (fun i => (i.zero, i.size, i.bytes)) = some (some (.agg #[.int .u8 0, .int .u8 0]), 2, 2) := by kernel_rfl
theorem cell_two_new (w : World) (x y : Value) (t : TypeId) : ∀ j u, [x, y][j]? = some u → (w.alloc (.cells #[x, y] t)).cell? ((⟨w.heap.size, 0, none⟩ : Addr).add j) = some u := by
  intro j u hj
  match j, hj with
  | 0, hj => simp at hj; subst hj; simp [Addr.add]
  | 1, hj => simp at hj; subst hj; simp [Addr.add]

/-- A box beside a row of another kind lies in another block; and the row lies from its base on. -/
theorem box_ne {W : World} {B n₀ : Nat} {t e : TypeId} {size : Nat} {v : Value} {g n cap k : Nat} {xs : List Value} (hv : Boxed W B t v) (hte : t ≠ e) (hrow : W.ownsRow n₀ e size (.slice (some ⟨g, 0, none⟩) n cap) k xs) : B ≠ g ∧ n₀ ≤ g := by
  obtain ⟨_, ⟨h, _⟩ | ⟨g', cap', cur, h, hg, hh, _⟩⟩ := hrow
  · cases h
  · simp only [Value.slice.injEq, Option.some.injEq, Addr.mk.injEq, and_true] at h
    obtain ⟨rfl, _, _⟩ := h
    refine ⟨?_, hg⟩
    rintro rfl
    rw [show W.heap[B]? = _ from hv] at hh
    cases hh
    exact hte rfl

set_option maxRecDepth 100000 in
set_option maxHeartbeats 2000000 in
theorem runs_in (s : S4) (hs : s.ok) (w : World) (hT : Tab w) :
    CallsIn Fence.wide 4 Tryd.prog 31 #[s.v] w fun e W' => ∃ v, e = .returned v ∧ W'.ownsRow w.heap.size 68 2 v (rs (lstB s)).length (runsV (rs (lstB s))) ∧ Below w.heap.size w W' := by
  have hlen : s.lst.length ≤ 256 := by
    have := List.length_filter_le s.has (List.range 256)
    rw [List.length_range] at this
    exact this
  have hg := hT.lt
  obtain ⟨i0, hi, hz0, hz1, hz2⟩ := info_parts info_run
  have hro : Fence.wide.round = none := rfl
  refine callsIn_of_wp_marks Tryd.func31 rfl trivial ?_ hro
  simp only [Tryd.ntmps31, List.size_toArray, List.length_cons, List.length_nil, Nat.reduceAdd, Nat.reduceSub, Array.replicate_succ, Array.replicate_zero, List.push_toArray, List.append_toArray, List.nil_append, List.cons_append]
  gi_wp2_with fail
  refine ⟨trivial, (each_in 3 s _).mono ?_⟩
  rintro e w' ⟨rfl, rfl⟩
  gi_wp2_with fail
  have b0 := Box4.new w s
  have b1 := Boxed.new (w.alloc (.cells #[.int .u64 s.a, .int .u64 s.b, .int .u64 s.c, .int .u64 s.d] 31)) 66 (.slice none 0 0)
  have b2 := Box4.new ((w.alloc (.cells #[.int .u64 s.a, .int .u64 s.b, .int .u64 s.c, .int .u64 s.d] 31)).alloc (.cells #[.slice none 0 0] 66)) s
  rw [World.size_alloc] at b1
  rw [World.size_alloc, World.size_alloc] at b2
  have hB0 : Below w.heap.size w (((w.alloc (.cells #[.int .u64 s.a, .int .u64 s.b, .int .u64 s.c, .int .u64 s.d] 31)).alloc (.cells #[.slice none 0 0] 66)).alloc (.cells #[.int .u64 s.a, .int .u64 s.b, .int .u64 s.c, .int .u64 s.d] 31)) := (((Below.refl _ w).alloc (Nat.le_refl _) _).alloc (by simp) _).alloc (by simp; omega) _
  refine wpIn_rangeFunc_ownG hro (by omega) (gf := 58) (lb := #[.pointer (some ⟨w.heap.size + 1 + 1, 0, none⟩)]) rfl trivial (enters_of Tryd.func58 (by kernel_rfl) rfl)
    (each_stops 3 (by omega) (w.heap.size + 1 + 1) w.heap.size s hs _ (by simp) b2 (hT.below hB0 hg) hg) belowK_t (belowK_b (by simp; omega)) (Below.refl _ _) (fun _ => rfl)
    (fun pre W => (∃ v, Boxed W (w.heap.size + 1) 66 v ∧ W.ownsRow w.heap.size 68 2 v (rs pre).length (runsV (rs pre)) ∧ (v = .slice none 0 0 ↔ rs pre = [])) ∧ Below w.heap.size w W)
    (fun _ _ _ => False)
    (OwnFrom.and (Own.from (holdsRow_own w.heap.size (w.heap.size + 1) 66 68 2 (fun pre => (rs pre).length) (fun pre => runsV (rs pre)) (fun pre v => v = .slice none 0 0 ↔ rs pre = [])) _) (ownFrom_below (Nat.le_refl _) (by simp; omega)))
    (fun _ _ _ _ _ hs _ _ => hs)
    ⟨⟨_, b1.alloc _, World.ownsRow_nil _ _ _ _, by simp [rs]⟩, hB0⟩
    (fun x => { tmps := #[s.v, .pointer (some ⟨w.heap.size, 0, none⟩), .slice none 0 0, .pointer (some ⟨w.heap.size + 1, 0, none⟩), .int .u8 x.toNat, undef, .agg #[.int .u64 s.a, .int .u64 s.b, .int .u64 s.c, .int .u64 s.d], .func (.func 58) #[] #[.pointer (some ⟨w.heap.size + 1 + 1, 0, none⟩)], .int .u8 x.toNat, undef, undef, undef, undef, undef, undef, undef, undef, undef, undef, undef, undef, undef, undef, undef, undef, undef, undef, undef, undef, undef, undef, undef, undef, undef, undef, undef, undef, undef], defers := [] }) ?assign ?body ?done ?stop
  case assign =>
    intro l x W K hK
    gi_wp2
    exact hK
  case body =>
    rintro l pre x W ⟨⟨v, hv, hrow, hnil⟩, hB⟩ hlt
    clear b0 b1 b2 hB0
    have hc := hv.cell
    have hrl := rs_len pre
    have hx256 := x.toNat_lt
    rcases List.eq_nil_or_concat (rs pre) with hn | ⟨m, p, hn⟩
    · rw [hn] at hrow
      have hv0 := hnil.2 hn
      subst hv0
      have HN := Lib.hid (show rs (pre ++ [x]) = [(x, x)] by rw [rs_snoc, hn]; rfl)
      clear hnil hn
      have hrow : W.ownsRow w.heap.size 68 2 (.slice none 0 0) 0 [] := hrow
      gi_wp2_with (gi_at_builtin; refine wpListIn_append_own _ rfl _ _ 66 rfl w.heap.size 68 i0 (.agg #[.int .u8 0, .int .u8 0]) 2 2 Tryd.underlying66 hi hz0 hz1 hz2 rfl (by decide) _ _ _ rfl (hrow.alloc _) ⟨W.heap.size, 0, none⟩ 1 1 [.int .u8 x.toNat, .int .u8 x.toNat] rfl rfl (cell_two_new _ _ _ _) (by simp [Value.oneCell']) (by unfold maxLen; omega) (by omega) (by have := hB.size; simp; omega) ?_; intro v' w1 hown' hgrow _; obtain ⟨g', cap', rfl⟩ := ownsRow_succ hown'; obtain ⟨hv1, hv2, hr2, hk2, hb2⟩ := hv.appended (by decide) hrow hB.size (by omega) hown' hgrow; have hc1 := hv1.cell; have hf1 := hv1.frozen)
      exact ⟨hk2.from _, hb2, ⟨_, hv2, by rw [HN.out]; exact hr2, by rw [HN.out]; simp⟩, hB.trans hb2⟩
    · rw [List.concat_eq_append] at hn
      rw [hn] at hrow
      have hlen2 : m.length + 1 ≤ pre.length := by rw [hn] at hrl; simpa using hrl
      obtain ⟨M, hM⟩ : ∃ M, m.length = M := ⟨_, rfl⟩
      have hml : (m ++ [p]).length = M + 1 := by simp [hM]
      rw [hml] at hrow
      obtain ⟨g, cap, rfl⟩ := ownsRow_succ hrow
      obtain ⟨hne, hbg⟩ := box_ne hv (by decide) hrow
      have hcz : W.cell? ⟨g, M * 2 + 1, none⟩ = some (byteV p.2) := by
        rw [hrow.cellAt _ (by omega), runsV_append, List.getElem?_append_right (by rw [runsV_len]; omega), runsV_len, hM, show M * 2 + 1 - M * 2 = 1 by omega]
        rfl
      unfold byteV at hcz
      have hM256 : M + 1 ≤ 256 := by omega
      have hMp : M ≤ pre.length := by omega
      clear hnil
      by_cases hz : p.2.toNat + 1 = x.toNat
      · have HN := Lib.hid (show rs (pre ++ [x]) = m ++ [(p.1, x)] by rw [rs_snoc, hn, addRun_on _ _ _ hz])
        have hze : (((p.2.toNat : Int) + 1) == (x.toNat : Int)) = true := by simp; omega
        have hp256 := p.2.toNat_lt
        have hml' := Lib.hid hM
        have hfz := hrow.frozenAt (M * 2 + 1)
        clear hn hM hml
        gi_wp2
        obtain ⟨hs1, hs2⟩ := hrow.stored (M * 2 + 1) (.int .u8 x.toNat)
        refine ⟨(KeepsOthers.setCell _ _ _).from _, (Below.refl _ _).setCell hbg _, ⟨.slice (some ⟨g, 0, none⟩) (M + 1) cap, ?_, ?_, ?_⟩, hB.setCell hbg _⟩
        · exact (Below.heap_setCell _ _ _ _ hne).trans hv
        · have e : (m ++ [(p.1, x)]).length = M + 1 := by simp [hml'.out]
          have e2 : (runsV (m ++ [p])).set (M * 2 + 1) (.int .u8 x.toNat) = runsV (m ++ [(p.1, x)]) := by
            rw [runsV_append, runsV_append, List.set_append_right _ _ (by rw [runsV_len, hml'.out]; omega), runsV_len, hml'.out, show M * 2 + 1 - M * 2 = 1 by omega]
            rfl
          rw [HN.out, e, ← e2]
          exact hs1
        · rw [HN.out]; simp
      · have HN := Lib.hid (show rs (pre ++ [x]) = m ++ [p] ++ [(x, x)] by rw [rs_snoc, hn, addRun_new _ _ _ hz])
        have hze : (((p.2.toNat : Int) + 1) == (x.toNat : Int)) = false := by simp; omega
        have hp256 := p.2.toNat_lt
        have hml' := Lib.hid hM
        clear hn hM hml
        gi_wp2_with (gi_at_builtin; refine wpListIn_append_own _ rfl _ _ 66 rfl w.heap.size 68 i0 (.agg #[.int .u8 0, .int .u8 0]) 2 2 Tryd.underlying66 hi hz0 hz1 hz2 rfl (by decide) _ _ _ rfl (hrow.alloc _) ⟨W.heap.size, 0, none⟩ 1 1 [.int .u8 x.toNat, .int .u8 x.toNat] rfl rfl (cell_two_new _ _ _ _) (by simp [Value.oneCell']) (by unfold maxLen; omega) (by omega) (by have := hB.size; simp; omega) ?_; intro v' w1 hown' hgrow _; obtain ⟨g', cap', rfl⟩ := ownsRow_succ hown'; obtain ⟨hv1, hv2, hr2, hk2, hb2⟩ := hv.appended (by decide) hrow hB.size (by omega) hown' hgrow; have hc1 := hv1.cell; have hf1 := hv1.frozen)
        have e : (m ++ [p] ++ [(x, x)]).length = M + 1 + 1 := by simp [hml'.out]
        refine ⟨hk2.from _, hb2, ⟨_, hv2, ?_, ?_⟩, hB.trans hb2⟩
        · rw [HN.out, runsV_append, e]; exact hr2
        · rw [HN.out]; simp
  case done =>
    rintro D ys W hD rfl ⟨⟨v, hv, hrow, hnil⟩, hB⟩ hK
    have hc := hv.cell
    gi_wp2
    refine ⟨by simp, .inl ⟨_, _, rfl, run_takeDeferred hK, ?_⟩⟩
    exact ⟨_, results_tmp rfl _ _ _, v, rfl, ownsRow_putObj hrow _ hK rfl, hB.trans (belowK_b (w := w) (Nat.le_refl _) W D _ _ (by simp at hD; omega) hK rfl rfl)⟩
  case stop =>
    rintro D c pre W _ _ h _
    exact h.elim
end Go.Proofs.YtjaklcmadkpmdaaDoor
