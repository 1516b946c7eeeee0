/- Unliteral: for every text. -/
import Derived.RangeFuncBox
import Derived.RangeFuncCalls
import Derived.RangeFuncLeaves
import Derived.Laws.AppendOwn
import Derived.OwnWalkIn
import Derived.Test.YtjaklcmadkpmdaaDoorQuoX
namespace Go.Proofs.YtjaklcmadkpmdaaDoor
open Go Go.RowKit Go.Shelf
set_option linter.unusedSimpArgs false
set_option linter.unusedVariables false

attribute [local go_sem] Oper.semAt_some

/-- What a literal's text comes to: its bytes, how many it has, what is wrong. -/
def unl (t : ByteArray) (mb n : Nat) : ByteArray × Nat × Nat :=
  let r := (rd0 false t mb).expect 34
  if r.e ≠ 0 then (⟨#[]⟩, r.at', r.e) else
    let p := r.lit false 34 n
    if p.2.e ≠ 0 then (⟨#[]⟩, p.2.at', p.2.e) else if 255 < p.1.length then (⟨#[]⟩, 0, 40) else (⟨p.1.toArray⟩, p.2.at', 0)
def unlV (p : ByteArray × Nat × Nat) : Value := .tuple #[.string p.1, .int .i64 p.2.1, .int .i64 p.2.2]

theorem ownsRow_of {X Y : World} {base : Nat} {e : TypeId} {size k : Nat} {v : Value} {xs : List Value} (h : X.ownsRow base e size v k xs) (hO : ∀ g, base ≤ g → g < X.heap.size → Y.heap[g]? = X.heap[g]?) : Y.ownsRow base e size v k xs :=
  ⟨h.1, h.2.imp id fun ⟨g, cap, cur, hv, hb, hg, r⟩ => ⟨g, cap, cur, hv, hb, (hO g hb (Array.getElem?_eq_some_iff.1 hg).1).trans hg, r⟩⟩
theorem ownsRow_shape {X : World} {base : Nat} {e : TypeId} {size k : Nat} {v : Value} {xs : List Value} (h : X.ownsRow base e size v k xs) : ∃ a c, v = .slice a k c := by
  rcases h.2 with ⟨rfl, rfl⟩ | ⟨g, cap, cur, rfl, _⟩
  · exact ⟨_, _, rfl⟩
  · exact ⟨_, _, rfl⟩

theorem signs_in (n : Nat) (b : Nat) (w : World) :
    CallsIn Fence.wide n Tryd.prog 27 #[.pointer (some ⟨b, 0, none⟩)] w fun e w' => e = .returned (.func (.func 43) #[] #[.pointer (some ⟨w.heap.size, 0, none⟩)]) ∧ w' = w.alloc (.cells #[.pointer (some ⟨b, 0, none⟩)] 55) := by
  refine callsIn_of_wp Tryd.func27 rfl trivial ?_ rfl
  simp only [Tryd.ntmps27, List.size_toArray, List.length_cons, List.length_nil, Nat.reduceAdd, Nat.reduceSub, Array.replicate_succ, Array.replicate_zero, List.push_toArray, List.append_toArray, List.nil_append, List.cons_append]
  gi_wp2
  go_ret
  exact ⟨rfl, rfl⟩

/-- Where a walk along the signs stands. -/
def Gone (cls : Bool) (r0 : Rd) (pre : List UInt8) (s : Rd) : Prop := pre.length ≤ s.at' ∧ ∀ M, r0.signs cls (pre.length + M) = (pre ++ (s.signs cls M).1, (s.signs cls M).2)
theorem Gone.start (cls : Bool) (r0 : Rd) : Gone cls r0 [] r0 := ⟨Nat.zero_le _, fun M => by simp⟩
theorem Gone.step {cls : Bool} {r0 s t : Rd} {pre : List UInt8} {x : UInt8} (h : Gone cls r0 pre s) (hl : s.at' ≤ s.text.size) (hs : StepR cls s x t) : Gone cls r0 (pre ++ [x]) t := by
  obtain ⟨h1, h2, h3, h4⟩ := hs
  have ho := s.sign_on cls hl
  rw [h3] at ho
  dsimp only at ho
  refine ⟨by have := ho.2 h4; have := h.1; simp; omega, fun M => ?_⟩
  have e : s.signs cls (M + 1) = (x :: (t.signs cls M).1, (t.signs cls M).2) := by
    rw [Rd.signs, if_pos ⟨h1, h2⟩, h3, if_neg (by simpa using h4)]
  have := h.2 (M + 1)
  rw [e] at this
  rw [show (pre ++ [x]).length + M = pre.length + (M + 1) by simp; omega, this]
  simp
theorem Gone.fin {cls : Bool} {r0 s t : Rd} {pre : List UInt8} (h : Gone cls r0 pre s) (hf : FinR cls s t) (n : Nat) (hn : pre.length < n) : r0.signs cls n = (pre, t) := by
  obtain ⟨m, rfl⟩ : ∃ m, n = pre.length + (m + 1) := ⟨n - pre.length - 1, by omega⟩
  have e : s.signs cls (m + 1) = ([], t) := by
    rw [Rd.signs]
    rcases hf with ⟨h1, rfl⟩ | ⟨h1, h2, rfl, h4⟩
    · rw [if_neg h1]
    · rw [if_pos ⟨h1, h2⟩, if_pos h4]
  rw [h.2, e]
  simp
/-- What a walk along the signs comes to. -/
theorem unl_of (t : ByteArray) (mb n : Nat) (hn : t.size < n) {s f : Rd} {pre : List UInt8} (h : Gone false ((rd0 false t mb).expect 34) pre s) (hf : FinR false s f) (hp : pre.length ≤ t.size) :
    unl t mb n = if (f.expect 34).e ≠ 0 then (⟨#[]⟩, (f.expect 34).at', (f.expect 34).e) else if 255 < pre.length then (⟨#[]⟩, 0, 40) else (⟨pre.toArray⟩, (f.expect 34).at', 0) := by
  have hs := h.fin hf n (by omega)
  unfold unl
  dsimp only
  have hE : ((rd0 false t mb).expect 34).at' ≤ t.size ∧ ((rd0 false t mb).expect 34).text = t := by
    unfold Rd.expect
    split
    · exact ⟨Nat.zero_le _, rfl⟩
    · split
      · rename_i hx
        have := next_lt hx
        exact ⟨this, rfl⟩
      · exact ⟨Nat.zero_le _, rfl⟩
  by_cases he : ((rd0 false t mb).expect 34).e = 0
  · rw [if_neg (by simpa using he)]
    have hl := Rd.lit_signs false 34 (by decide) n _ he (by rw [hE.2]; exact hE.1) (by rw [hE.2]; omega)
    rw [hs] at hl
    rw [hl.1, hl.2]
  · rw [if_pos he]
    have e0 : ((rd0 false t mb).expect 34).signs false n = ([], (rd0 false t mb).expect 34) := by
      obtain ⟨m, rfl⟩ : ∃ m, n = m + 1 := ⟨n - 1, by omega⟩
      rw [Rd.signs, if_neg (fun h => he h.1)]
    rw [e0] at hs
    cases hs
    have e1 : ((rd0 false t mb).expect 34).expect 34 = (rd0 false t mb).expect 34 := by
      rw [Rd.expect, if_pos he]
    rw [e1, if_pos he]

set_option maxRecDepth 100000 in
set_option maxHeartbeats 4000000 in
theorem unliteral_any {W0 w : World} (hI : Inv W0) (hb0 : Below W0.heap.size W0 w) (t : ByteArray) (hs : t.size ≤ 20000) (n : Nat) (hn : t.size < n) :
    Calls Tryd.prog 10 #[.string t] w fun e w' => (∃ mb, e = .returned (unlV (unl t mb n))) ∧ Below w.heap.size w w' := by
  refine callsIn_wide.1 (?_ : CallsIn Fence.wide 4 _ _ _ _ _)
  obtain ⟨i0, hi, hz0, hz1, hz2⟩ := info_parts info_u8
  have hro : Fence.wide.round = none := rfl
  have HI := Lib.hid hI
  clear hI
  refine callsIn_of_wp_marks Tryd.func10 rfl trivial ?_ hro
  simp only [Tryd.ntmps10, List.size_toArray, List.length_cons, List.length_nil, Nat.reduceAdd, Nat.reduceSub, Array.replicate_succ, Array.replicate_zero, List.push_toArray, List.append_toArray, List.nil_append, List.cons_append]
  gi_wp2_with fail
  refine ⟨trivial, (callsIn_wide.2 (show Calls Tryd.prog 26 #[.string t, .int .u8 34, .string ⟨#[92, 34]⟩] w _ from begin_lit t (by omega) 34 w)).mono ?_⟩
  rintro e w1 ⟨b, mb, rfl, hb, hmb, hne, hr, hm, hB⟩
  gi_wp2_with fail
  refine ⟨trivial, (signs_in 3 b _).mono ?_⟩
  rintro e w' ⟨rfl, rfl⟩
  gi_wp2_with fail
  have h0w : W0.heap.size ≤ w.heap.size := hb0.size
  have hbl := hr.lt
  have hmbl : mb < w1.heap.size := (Array.getElem?_eq_some_iff.1 hm).1
  have hB2 : Below w.heap.size w ((w1.alloc (.cells #[.slice none 0 0] 45)).alloc (.cells #[.pointer (some ⟨b, 0, none⟩)] 55)) := (hB.alloc hB.size _).alloc (by simp; have := hB.size; omega) _
  have hE : ((rd0 false t mb).expect 34).at' ≤ t.size ∧ (rd0 false t mb).like ((rd0 false t mb).expect 34) := by
    unfold Rd.expect
    split
    · exact ⟨Nat.zero_le _, Rd.like.refl _⟩
    · split
      · rename_i hx
        exact ⟨next_lt hx, ⟨rfl, rfl, rfl⟩⟩
      · exact ⟨Nat.zero_le _, Rd.bad_like _⟩
  have hO : OwnR W0 false t b mb (w1.heap.size + 1) ((rd0 false t mb).expect 34) ((w1.alloc (.cells #[.slice none 0 0] 45)).alloc (.cells #[.pointer (some ⟨b, 0, none⟩)] 55)) :=
    ⟨(Below.heap_alloc _ _ _ (by simp; omega)).trans ((Below.heap_alloc _ _ _ hbl).trans hr), hE.2.1, by omega, hE.2.2.1, hE.2.2.2, hE.1,
      (Below.heap_alloc _ _ _ (by simp; omega)).trans ((Below.heap_alloc _ _ _ hmbl).trans hm), by have := World.alloc_heap_new (w1.alloc (.cells #[.slice none 0 0] 45)) (.cells #[.pointer (some ⟨b, 0, none⟩)] 55); rwa [World.size_alloc] at this, hb0.trans (hB2.mono h0w)⟩
  have hx1 : Boxed (w1.alloc (.cells #[.slice none 0 0] 45)) w1.heap.size 45 (.slice none 0 0) := Boxed.new w1 _ _
  refine wp_range_steered (gf := 43) (lb := #[.pointer (some ⟨w1.heap.size + 1, 0, none⟩)]) rfl (enters_of Tryd.func43 (by kernel_rfl) rfl)
    (signs_steers false HI.out 3 (by omega) t b mb (w1.heap.size + 1) (by omega) hne (by omega) ((rd0 false t mb).expect 34) _) (fun _ => rfl) ?k
    (fun s W => (∃ pre v, (s.text = t ∧ s.at' ≤ t.size ∧ Gone false ((rd0 false t mb).expect 34) pre s) ∧ Boxed W w1.heap.size 45 v ∧ W.ownsRow w1.heap.size 5 1 v pre.length (pre.map byteV)) ∧ Below w.heap.size w W) (fun _ _ => False) ?jk ?jo ?oo ?io ⟨⟨[], _, ⟨hE.2.1, hE.1, Gone.start _ _⟩, hx1.alloc _, World.ownsRow_nil _ _ _ _⟩, hB2⟩ hO
    (fun x => { tmps := #[.string t, undef, .string ⟨#[]⟩, .int .i64 0, .int .i64 0, .pointer (some ⟨b, 0, none⟩), .pointer (some ⟨w1.heap.size, 0, none⟩), .int .u8 x.toNat, .string t, .pointer (some ⟨b, 0, none⟩), .pointer (some ⟨b, 0, none⟩), .func (.func 43) #[] #[.pointer (some ⟨w1.heap.size + 1, 0, none⟩)], .int .u8 x.toNat, undef, undef, undef, undef, undef, undef, undef, undef, undef, undef, undef, undef, undef, undef, undef, undef, undef, undef, undef, undef, undef, undef, undef, undef, undef, undef, undef, undef, undef, undef, undef, undef, undef, undef, undef], defers := [] }) ?assign ?body ?done ?stop
  case k =>
    intro X Y h
    exact ⟨h.size, fun k o hB hk _ => (h.block k (Array.getElem?_eq_some_iff.1 hk).1 (by simp at hB; omega)).trans hk⟩
  case jk =>
    rintro s X Y ⟨⟨pre, v, hg, hv, hrow⟩, hBX⟩ hXY
    exact ⟨⟨pre, v, hg, (hXY.block _ hv.lt (by omega)).trans hv, ownsRow_of hrow fun g h1 h2 => hXY.block g h2 (by omega)⟩, hBX.trans (hXY.below hb hBX.size)⟩
  case jo =>
    rintro s X Y row ⟨⟨pre, v, hg, hv, hrow⟩, hBX⟩ hXY hrw
    have hne : v.ownBlock = none ∨ v.ownBlock ≠ row := by
      rcases hrow.2 with ⟨rfl, _⟩ | ⟨g, cap, cur, rfl, _, hgb, _⟩
      · exact .inl rfl
      · refine .inr fun e' => ?_
        obtain ⟨_, o, ho, hc⟩ := hrw g (by rw [← e']; rfl)
        rw [hgb] at ho; cases ho; cases hc
    exact ⟨⟨pre, v, hg, hv.kept hXY (fun e => by have := (hrw _ e.symm).1; simp at this; omega), hrow.kept hXY hne⟩, hBX.grown hXY hBX.size (fun k e => by have := (hrw k e).1; have := hB.size; simp at *; omega)⟩
  case oo =>
    rintro s X Y row h hXY hrw
    have kp : ∀ k o, k < w1.heap.size + 2 → X.heap[k]? = some o → Y.heap[k]? = some o := fun k o hk ho => (hXY.block k (Array.getElem?_eq_some_iff.1 ho).1 (fun e => by have := (hrw k e.symm).1; simp at this; omega)).trans ho
    exact ⟨kp _ _ (by omega) h.at_, h.text, h.size, h.bare, h.mp, h.le, kp _ _ (by omega) h.map, kp _ _ (by omega) h.box, h.base.grown hXY h.base.size (fun k e => by have := (hrw k e).1; have := hB.size; simp at *; omega)⟩
  case io => exact fun _ _ _ _ h _ _ => h
  case assign =>
    intro l x W K hK
    gi_wp2
    exact hK
  case body =>
    rintro l s x t' W hl hrec ⟨⟨pre, v, hg, hv, hrow⟩, hBX⟩ ho hst
    have hc := hv.cell
    have hst1 : pre.length < t.size := by
      obtain ⟨a1, a2, a3, a4⟩ := hst
      have h1 := s.sign_on false (by rw [hg.1]; exact hg.2.1)
      rw [a3] at h1
      have h2 := h1.2 a4
      have h3 := ho.le
      have h4 := hg.2.2.1
      dsimp only at h2
      omega
    gi_wp2_with (gi_at_builtin; refine wpListIn_append_own _ rfl _ _ 45 rfl w1.heap.size 5 i0 (.int .u8 0) 1 1 Tryd.underlying45 hi hz0 hz1 hz2 rfl (by decide) _ _ _ rfl (hrow.alloc _) ⟨W.heap.size, 0, none⟩ 1 1 [.int .u8 x.toNat] rfl rfl (cell_one_new _ _ _) (by simp [Value.oneCell']) (by unfold maxLen; omega) (by omega) (by have := hv.lt; simp; omega) ?_; intro v' w2 hown' hgrow _; obtain ⟨g', cap', rfl⟩ := ownsRow_succ hown'; obtain ⟨hv1, hv2, hr2, hk2, hb2⟩ := hv.appended (by decide) hrow (by have := hv.lt; omega) (Nat.le_refl _) hown' hgrow; have hc1 := hv1.cell; have hf1 := hv1.frozen)
    have hb0x : Boxed W (w1.heap.size + 1) 55 (.pointer (some ⟨b, 0, none⟩)) := ho.box
    have hbx := fun u => Boxed.other (((hb0x.alloc _).kept hgrow (hb0x.not_row (by decide) hrow))) (show w1.heap.size + 1 ≠ w1.heap.size by omega) u
    refine ⟨hk2.from _, t', ⟨Rd.like.refl _, Nat.le_refl _⟩, ⟨(hb2.block b hbl).trans ho.at_, ho.text, ho.size, ho.bare, ho.mp, ho.le, (hb2.block mb hmbl).trans ho.map, hbx _, ho.base.trans (hb2.mono (by have := hB.size; omega))⟩, ⟨pre ++ [x], _, ⟨ho.text, ho.le, hg.2.2.step (by rw [hg.1]; exact hg.2.1) hst⟩, hv2, by simpa [byteV] using hr2⟩, hBX.trans (hb2.mono hB.size)⟩
  case done =>
    rintro D s f W hD hf ho ⟨⟨pre, v, hg, hv, hrow⟩, hBX⟩ hK
    have hpre : pre.length ≤ t.size := Nat.le_trans hg.2.2.1 hg.2.1
    have hU := unl_of t mb n hn hg.2.2 hf hpre
    have HX := Lib.hid (show Calls Tryd.prog 28 #[.pointer (some ⟨b, 0, none⟩), .int .u8 34] W fun e w' => (∃ v, e = .returned v) ∧ RdAt w' b (f.expect 34) ∧ Only b W w' from expect_any W b f ho.at_ (by rw [ho.text]; omega) 34)
    have hnl : D ≠ b := by simp at hD; omega
    obtain ⟨va, vc, rfl⟩ := ownsRow_shape hrow
    obtain ⟨f', hf'⟩ : ∃ f', f' = f.expect 34 := ⟨_, rfl⟩
    rw [← hf'] at hU HX
    clear hf'
    gi_wp2_with fail
    refine ⟨trivial, (callsIn_wide.2 HX.out).mono ?_⟩
    rintro e w3 ⟨⟨v, rfl⟩, h3, hO3⟩
    have hv3 : Boxed w3 w1.heap.size 45 (.slice va pre.length vc) := (hO3.block _ hv.lt (by omega)).trans hv
    have hrow3 := ownsRow_of hrow fun g h1 h2 => hO3.block g h2 (by omega)
    have hK3 : w3.heap[D]? = some (.deferred (some [])) := (hO3.block D (Array.getElem?_eq_some_iff.1 hK).1 hnl).trans hK
    have hB3 : Below w.heap.size w w3 := hBX.trans (hO3.below hb hBX.size)
    have hc3 := hv3.cell
    obtain ⟨x0, x1, x2, x3, x4⟩ := h3.cells
    clear HX hO3 hv hrow hK h3
    by_cases he : f'.e = 0
    · have he1 : ((f'.e : Int) == 0) = true := by rw [beq_iff_eq]; omega
      have he2 : ((f'.e : Int) != 0) = false := by rw [bne_eq_false_iff_eq]; omega
      rw [if_neg (by simpa using he)] at hU
      by_cases hl : 255 < pre.length
      · have hl1 : decide ((255 : Int) < (pre.length : Int)) = true := by simp; omega
        have hl2 : (255 : Int) < (pre.length : Int) := by omega
        have hl4 : decide (255 < pre.length) = true := by simp; omega
        rw [if_pos hl] at hU
        gi_wp2
        refine ⟨by simp, .inl ⟨_, _, rfl, run_takeDeferred (w := w3) hK3, ?_⟩⟩
        exact ⟨unlV (unl t mb n), by rw [hU]; simp [results, Tryd.results10, unlV, go_sem], ⟨mb, rfl⟩, hB3.trans (belowK_b (w := w) (Nat.le_refl _) w3 D _ _ (by simp at hD; have := hB.size; omega) hK3 rfl rfl)⟩
      · have hl1 : decide ((255 : Int) < (pre.length : Int)) = false := by simp; omega
        have hl2 : ¬ (255 : Int) < (pre.length : Int) := by omega
        have hl4 : decide (255 < pre.length) = false := by simp; omega
        rw [if_neg hl] at hU
        gi_wp2_with fail
        have hcv := conv_own (W := w3.drew) pre hrow3
        gi_region
        all_goals
          gi_wp2
          refine ⟨by simp, .inl ⟨_, _, rfl, run_takeDeferred (w := w3.drew) hK3, ?_⟩⟩
          exact ⟨unlV (unl t mb n), by rw [hU]; simp [results, Tryd.results10, unlV, go_sem], ⟨mb, rfl⟩, hB3.drew.trans (belowK_b (w := w) (Nat.le_refl _) w3.drew D _ _ (by simp at hD; have := hB.size; omega) hK3 rfl rfl)⟩
    · have he1 : ((f'.e : Int) == 0) = false := by rw [beq_eq_false_iff_ne]; omega
      have he2 : ((f'.e : Int) != 0) = true := by rw [bne_iff_ne]; omega
      rw [if_pos he] at hU
      gi_wp2_with fail
      gi_region
      all_goals
        gi_wp2
        refine ⟨by simp, .inl ⟨_, _, rfl, run_takeDeferred (w := w3.drew) hK3, ?_⟩⟩
        exact ⟨unlV (unl t mb n), by rw [hU]; simp [results, Tryd.results10, unlV, go_sem], ⟨mb, rfl⟩, hB3.drew.trans (belowK_b (w := w) (Nat.le_refl _) w3.drew D _ _ (by simp at hD; have := hB.size; omega) hK3 rfl rfl)⟩
  case stop =>
    rintro D c W _ h _
    exact h.elim
end Go.Proofs.YtjaklcmadkpmdaaDoor
