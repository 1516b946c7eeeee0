/- Unclass: its walk, where no bracket stands. -/
import Derived.Test.YtjaklcmadkpmdaaDoorQuoSb
set_option linter.unusedVariables false
set_option linter.unusedSimpArgs false
namespace Go.Proofs.YtjaklcmadkpmdaaDoor
open Go Go.RowKit Go.Shelf
attribute [local go_sem] Oper.semAt_some

set_option maxRecDepth 100000 in
set_option maxHeartbeats 40000000 in
theorem unclass_err {W0 w : World} (hI : Inv W0) (hb0 : Below W0.heap.size W0 w) (t : ByteArray) (hs : t.size ≤ 20000) (n : Nat) (hn : t.size < n) (HYP : ∀ mb, ((rd0 true t mb).expect 91).e ≠ 0) :
    Calls Tryd.prog 14 #[.string t] w fun e w' => (∃ mb, e = .returned (unclV (uncl t mb n))) ∧ Below w.heap.size w w' := by
  refine callsIn_wide.1 (?_ : CallsIn Fence.wide 4 _ _ _ _ _)
  have hro : Fence.wide.round = none := rfl
  have HI := Lib.hid hI
  clear hI
  refine callsIn_of_wp_marks Tryd.func14 rfl trivial ?_ hro
  simp only [Tryd.ntmps14, List.size_toArray, List.length_cons, List.length_nil, Nat.reduceAdd, Nat.reduceSub, Array.replicate_succ, Array.replicate_zero, List.push_toArray, List.append_toArray, List.nil_append, List.cons_append]
  gi_wp2_with fail
  refine ⟨trivial, (callsIn_wide.2 (show Calls Tryd.prog 26 #[.string t, .int .u8 91, .string ⟨#[92, 93, 45, 94]⟩] (w.alloc _) _ from begin_cls t (by omega) 91 (w.alloc _))).mono ?_⟩
  rintro e w1 ⟨b, mb, rfl, hb, hmb, hne, hr, hm, hB⟩
  have hbs0 : Box4 w1 w.heap.size S4.nil := (Box4.new w S4.nil).below hB (Box4.new w S4.nil).lt
  have hB1 : Below w.heap.size w w1 := ((Below.refl _ w).alloc (Nat.le_refl _) _).trans (hB.mono (by simp))
  rw [World.size_alloc] at hb hmb
  have hX : ∀ {k : Nat} {o : Obj}, w1.heap[k]? = some o → (w1.alloc (.cells #[.pointer (some ⟨b, 0, none⟩)] 55)).heap[k]? = some o := fun h => (Below.heap_alloc _ _ _ (Array.getElem?_eq_some_iff.1 h).1).trans h
  have hr1 : RdAt (w1.alloc (.cells #[.pointer (some ⟨b, 0, none⟩)] 55)) b ((rd0 true t mb).expect 91) := hX hr
  have hm1 : MapAt (w1.alloc (.cells #[.pointer (some ⟨b, 0, none⟩)] 55)) mb (behL true) := hX hm
  have hbs1 : Box4 (w1.alloc (.cells #[.pointer (some ⟨b, 0, none⟩)] 55)) w.heap.size S4.nil := hX hbs0
  have hbr1 : Boxed (w1.alloc (.cells #[.pointer (some ⟨b, 0, none⟩)] 55)) w1.heap.size 55 (.pointer (some ⟨b, 0, none⟩)) := Boxed.new w1 _ _
  have hB2 : Below w.heap.size w (w1.alloc (.cells #[.pointer (some ⟨b, 0, none⟩)] 55)) := hB1.alloc hB1.size _
  have hbl := hr.lt
  have hmbl : mb < w1.heap.size := (Array.getElem?_eq_some_iff.1 hm).1
  have hE : ((rd0 true t mb).expect 91).at' ≤ t.size ∧ (rd0 true t mb).like ((rd0 true t mb).expect 91) := by
    unfold Rd.expect
    split
    · exact ⟨Nat.zero_le _, Rd.like.refl _⟩
    · split
      · rename_i hx
        exact ⟨next_lt hx, ⟨rfl, rfl, rfl⟩⟩
      · exact ⟨Nat.zero_le _, Rd.bad_like _⟩
  have hU0 : ∀ S f, (if decide (((rd0 true t mb).expect 91).e = 0) && ((rd0 true t mb).expect 91).next 94 then ((rd0 true t mb).expect 91).up else (rd0 true t mb).expect 91).items n S4.nil = (S, f) →
      uncl t mb n = if (f.expect 93).e ≠ 0 then (S4.nil, (f.expect 93).at', (f.expect 93).e) else ((if decide (((rd0 true t mb).expect 91).e = 0) && ((rd0 true t mb).expect 91).next 94 then S.not else S), (f.expect 93).at', 0) := fun S f h => by
    unfold uncl
    dsimp only
    rw [h]
  have hh := HYP mb
  obtain ⟨r0, hr0⟩ : ∃ r0, r0 = (rd0 true t mb).expect 91 := ⟨_, rfl⟩
  rw [← hr0] at hr1 hE hU0 hh
  obtain ⟨x0, x1, x2, x3, x4⟩ := hr1.cells
  clear hr hr0 hX hbs0
  have he1 : ((r0.e : Int) == 0) = false := by rw [beq_eq_false_iff_ne]; omega
  have HU := Lib.hid (show ∀ S f, r0.items n S4.nil = (S, f) → uncl t mb n = if (f.expect 93).e ≠ 0 then (S4.nil, (f.expect 93).at', (f.expect 93).e) else (S, (f.expect 93).at', 0) from by
    intro S f h
    have := hU0 S f
    rw [decide_eq_false hh] at this
    simp only [Bool.false_and, Bool.false_eq_true, if_false] at this
    exact this h)
  have hR := hE
  have HH := Lib.hid hh
  clear hU0 hh
  gi_wp2_with fail
  refine ⟨trivial, ?_⟩
  obtain ⟨w2, hw2⟩ : ∃ w2, w2 = w1.alloc (.cells #[.pointer (some ⟨b, 0, none⟩)] 55) := ⟨_, rfl⟩
  have hs2 : (w1.alloc (.cells #[.pointer (some ⟨b, 0, none⟩)] 55)).heap.size ≤ w2.heap.size := by rw [hw2]; exact Nat.le_refl _
  have hsz1 : (w1.alloc (.cells #[.pointer (some ⟨b, 0, none⟩)] 55)).heap.size = w1.heap.size + 1 := by simp
  rw [← hw2] at hr1 hm1 hbs1 hbr1 hB2 x0 x1 x2 x3 x4
  rw [← hw2]
  clear hw2
  have hr2 := hr1
  have hm2 := hm1
  have hbs2 := hbs1
  have hbr2 := hbr1
  have hB3 := hB2
  have hcr := hbr2.cell
  have hY : ∀ {k : Nat} {o : Obj}, w2.heap[k]? = some o → ((w2.alloc (.cells #[.int .i64 r0.at'] 3)).alloc (.cells #[.pointer (some ⟨b, 0, none⟩)] 55)).heap[k]? = some o := fun h => by
    have hl := (Array.getElem?_eq_some_iff.1 h).1
    exact (Below.heap_alloc _ _ _ (by simp; omega)).trans ((Below.heap_alloc _ _ _ hl).trans h)
  have hcr3 : (w2.alloc (.cells #[.int .i64 r0.at'] 3)).cell? ⟨w1.heap.size, 0, none⟩ = some (.pointer (some ⟨b, 0, none⟩)) := Boxed.cell (hbr2.alloc _)
  have hr3 : RdAt ((w2.alloc (.cells #[.int .i64 r0.at'] 3)).alloc (.cells #[.pointer (some ⟨b, 0, none⟩)] 55)) b r0 := hY hr2
  have hm3 : MapAt ((w2.alloc (.cells #[.int .i64 r0.at'] 3)).alloc (.cells #[.pointer (some ⟨b, 0, none⟩)] 55)) mb (behL true) := hY hm2
  have hbs3 : Box4 ((w2.alloc (.cells #[.int .i64 r0.at'] 3)).alloc (.cells #[.pointer (some ⟨b, 0, none⟩)] 55)) w.heap.size S4.nil := hY hbs2
  have hbr3 : Boxed ((w2.alloc (.cells #[.int .i64 r0.at'] 3)).alloc (.cells #[.pointer (some ⟨b, 0, none⟩)] 55)) w1.heap.size 55 (.pointer (some ⟨b, 0, none⟩)) := hY hbr2
  have hbf3 : Boxed ((w2.alloc (.cells #[.int .i64 r0.at'] 3)).alloc (.cells #[.pointer (some ⟨b, 0, none⟩)] 55)) w2.heap.size 3 (.int .i64 r0.at') := (Boxed.new w2 _ _).alloc _
  have hbx3 : ((w2.alloc (.cells #[.int .i64 r0.at'] 3)).alloc (.cells #[.pointer (some ⟨b, 0, none⟩)] 55)).heap[w2.heap.size + 1]? = some (.cells #[.pointer (some ⟨b, 0, none⟩)] 55) := by have := World.alloc_heap_new (w2.alloc (.cells #[.int .i64 r0.at'] 3)) (.cells #[.pointer (some ⟨b, 0, none⟩)] 55); rwa [World.size_alloc] at this
  have hB4 : Below w.heap.size w ((w2.alloc (.cells #[.int .i64 r0.at'] 3)).alloc (.cells #[.pointer (some ⟨b, 0, none⟩)] 55)) := (hB3.alloc hB3.size _).alloc (by simp; have := hB3.size; omega) _
  gi_wp2_with fail
  refine ⟨trivial, (signs_in 3 b _).mono ?_⟩
  rintro e w' ⟨rfl, rfl⟩
  have h0w : W0.heap.size ≤ w.heap.size := hb0.size
  have hw12 := hs2
  gi_wp2_with fail
  have hO : OwnR W0 true t b mb (w2.heap.size + 1) r0 ((w2.alloc (.cells #[.int .i64 r0.at'] 3)).alloc (.cells #[.pointer (some ⟨b, 0, none⟩)] 55)) := ⟨hr3, hR.2.1, by omega, hR.2.2.1, hR.2.2.2, hR.1, hm3, hbx3, hb0.trans (hB4.mono h0w)⟩
  refine wp_range_steered (gf := 43) (lb := #[.pointer (some ⟨w2.heap.size + 1, 0, none⟩)]) rfl (enters_of Tryd.func43 (by kernel_rfl) rfl)
    (signs_steers true HI.out 3 (by omega) t b mb (w2.heap.size + 1) (by omega) hne (by omega) r0 _) (fun _ => rfl) ?k
    (fun s W => s = r0 ∧ Box4 W w.heap.size S4.nil ∧ Boxed W w1.heap.size 55 (.pointer (some ⟨b, 0, none⟩)) ∧ Boxed W w2.heap.size 3 (.int .i64 s.at') ∧ Below w.heap.size w W)
    (fun c W => False) ?jk ?jo ?oo ?io ⟨rfl, hbs3, hbr3, hbf3, hB4⟩ hO
    (fun x => { tmps := #[.string t, undef, .pointer (some ⟨w.heap.size, 0, none⟩), .int .i64 0, .int .i64 0, .pointer (some ⟨w1.heap.size, 0, none⟩), .bool false, .pointer (some ⟨w2.heap.size, 0, none⟩), .int .u8 x.toNat, undef, .string t, .pointer (some ⟨b, 0, none⟩), .pointer (some ⟨b, 0, none⟩), .pointer (some ⟨b, 0, none⟩), .pointer (some ⟨b, 4, none⟩), .int .i64 r0.e, .bool false, .bool false, undef, undef, .bool false, .bool false, undef, undef, undef, undef, undef, undef, undef, .pointer (some ⟨b, 0, none⟩), .pointer (some ⟨b, 0, none⟩), .pointer (some ⟨b, 3, none⟩), .int .i64 r0.at', .pointer (some ⟨b, 0, none⟩), .func (.func 43) #[] #[.pointer (some ⟨w2.heap.size + 1, 0, none⟩)], .int .u8 x.toNat, undef, undef, undef, undef, undef, undef, undef, undef, undef, undef, undef, undef, undef, undef, undef, undef, undef, undef, undef, undef, undef, undef, undef, undef, undef, undef, undef, undef, undef, undef, undef, undef, undef, undef, undef, undef, undef, undef, undef, undef, undef, undef, undef, undef, undef, undef, undef, undef, undef, undef, undef, undef, undef, undef, undef, undef, undef, undef, undef, undef, undef, undef, undef, undef, undef, undef, undef], defers := [] }) ?assign ?body ?done ?stop
  case k =>
    intro X Y h
    exact ⟨h.size, fun k o hB hk _ => (h.block k (Array.getElem?_eq_some_iff.1 hk).1 (by simp at hB; omega)).trans hk⟩
  case jk =>
    rintro s X Y ⟨hg, hv, hbr, hbf, hBX⟩ hXY
    exact ⟨hg, (hXY.block _ hv.lt (by omega)).trans hv, (hXY.block _ hbr.lt (by omega)).trans hbr, (hXY.block _ hbf.lt (by omega)).trans hbf, hBX.trans (hXY.below (by omega) hBX.size)⟩
  case jo =>
    rintro s X Y row ⟨hg, hv, hbr, hbf, hBX⟩ hXY hrw
    have kp : ∀ k o, k < w2.heap.size + 2 → X.heap[k]? = some o → Y.heap[k]? = some o := fun k o hk ho => (hXY.block k (Array.getElem?_eq_some_iff.1 ho).1 (fun e => by have := (hrw k e.symm).1; simp at this; omega)).trans ho
    exact ⟨hg, kp _ _ (by omega) hv, kp _ _ (by omega) hbr, kp _ _ (by omega) hbf, hBX.grown hXY hBX.size (fun k e => by have := (hrw k e).1; simp at *; omega)⟩
  case oo =>
    rintro s X Y row h hXY hrw
    have kp : ∀ k o, k < w2.heap.size + 2 → X.heap[k]? = some o → Y.heap[k]? = some o := fun k o hk ho => (hXY.block k (Array.getElem?_eq_some_iff.1 ho).1 (fun e => by have := (hrw k e.symm).1; simp at this; omega)).trans ho
    exact ⟨kp _ _ (by omega) h.at_, h.text, h.size, h.bare, h.mp, h.le, kp _ _ (by omega) h.map, kp _ _ (by omega) h.box, h.base.grown hXY h.base.size (fun k e => by have := (hrw k e).1; simp at *; omega)⟩
  case io =>
    intro c X Y row h _ _
    exact h.elim
  case assign =>
    intro l x W K hK
    gi_wp2
    exact hK
  case body =>
    rintro l s x u W hl hrec ⟨hg, hv, hbr, hbf, hBX⟩ ho ⟨a1, a2, a3, a4⟩
    exact absurd (by rw [← hg]; exact a1) HH.out
  case done =>
    rintro D s g W hD hf ho ⟨hg, hv, hbr, hbf, hBX⟩ hK
    rw [hg] at hf
    have hU := HU.out S4.nil g ((GoneC.start r0).fin hf n (by have := hR.1; omega))
    have hge : (g.expect 93).e ≠ 0 := by
      rcases hf with ⟨_, h2⟩ | ⟨h1, _⟩
      · rw [h2]; unfold Rd.expect; rw [if_pos HH.out]; exact HH.out
      · exact absurd h1 HH.out
    have hgr := ho.at_
    have hgt := ho.text
    clear ho hbf hg hf
    have hcr := hbr.cell
    have HX := Lib.hid (show Calls Tryd.prog 28 #[.pointer (some ⟨b, 0, none⟩), .int .u8 93] W fun e w' => (∃ v, e = .returned v) ∧ RdAt w' b (g.expect 93) ∧ Only b W w' from expect_any W b g hgr (by rw [hgt]; omega) 93)
    obtain ⟨g', hg'⟩ : ∃ g', g' = g.expect 93 := ⟨_, rfl⟩
    rw [← hg'] at hU HX hge
    clear hg'
    gi_wp2_with fail
    refine ⟨trivial, (callsIn_wide.2 HX.out).mono ?_⟩
    rintro e w3 ⟨⟨vv, rfl⟩, h3, hO3⟩
    have hv3 : Box4 w3 w.heap.size S4.nil := (hO3.block _ hv.lt (by omega)).trans hv
    have hbr3 : Boxed w3 w1.heap.size 55 (.pointer (some ⟨b, 0, none⟩)) := (hO3.block _ hbr.lt (by omega)).trans hbr
    have hnl : D ≠ b := by simp at hD; omega
    have hK3 : w3.heap[D]? = some (.deferred (some [])) := (hO3.block D (Array.getElem?_eq_some_iff.1 hK).1 hnl).trans hK
    have hB3 : Below w.heap.size w w3 := hBX.trans (hO3.below (by omega) hBX.size)
    clear hcr HX hv hbr hK
    obtain ⟨x0, x1, x2, x3, x4⟩ := h3.cells
    have hcr := hbr3.cell
    obtain ⟨c0, c1, c2, c3⟩ := hv3.cells
    obtain ⟨f0, f1, f2, f3⟩ := hv3.free
    as_aux_lemma =>
      have he3 : ((g'.e : Int) != 0) = true := by rw [bne_iff_ne]; omega
      rw [if_pos hge] at hU
      have HU2 := Lib.hid hU
      clear hU hge
      gi_wp2_with fail
      gi_region
      all_goals
        gi_wp2
        have hDs : D ≠ w.heap.size := by simp at hD; omega
        have hK9 : (((((w3.setCell ⟨w.heap.size, 0, none⟩ (.int .u64 0)).setCell ⟨w.heap.size, 1, none⟩ (.int .u64 0)).setCell ⟨w.heap.size, 2, none⟩ (.int .u64 0)).setCell ⟨w.heap.size, 3, none⟩ (.int .u64 0)).drew).heap[D]? = some (.deferred (some [])) := ((Below.heap_setCell _ _ _ _ hDs).trans ((Below.heap_setCell _ _ _ _ hDs).trans ((Below.heap_setCell _ _ _ _ hDs).trans (Below.heap_setCell _ _ _ _ hDs)))).trans hK3
        have hv9 : Box4 (((((w3.setCell ⟨w.heap.size, 0, none⟩ (.int .u64 0)).setCell ⟨w.heap.size, 1, none⟩ (.int .u64 0)).setCell ⟨w.heap.size, 2, none⟩ (.int .u64 0)).setCell ⟨w.heap.size, 3, none⟩ (.int .u64 0)).drew) w.heap.size S4.nil := (hv3.store S4.nil).drew
        have hB9 : Below w.heap.size w (((((w3.setCell ⟨w.heap.size, 0, none⟩ (.int .u64 0)).setCell ⟨w.heap.size, 1, none⟩ (.int .u64 0)).setCell ⟨w.heap.size, 2, none⟩ (.int .u64 0)).setCell ⟨w.heap.size, 3, none⟩ (.int .u64 0)).drew) := ((((hB3.setCell (Nat.le_refl _) _).setCell (Nat.le_refl _) _).setCell (Nat.le_refl _) _).setCell (Nat.le_refl _) _).drew
        refine ⟨by simp, .inl ⟨_, _, rfl, run_takeDeferred hK9, ?_⟩⟩
        revert hK9 hv9 hB9
        generalize ((((w3.setCell ⟨w.heap.size, 0, none⟩ (.int .u64 0)).setCell ⟨w.heap.size, 1, none⟩ (.int .u64 0)).setCell ⟨w.heap.size, 2, none⟩ (.int .u64 0)).setCell ⟨w.heap.size, 3, none⟩ (.int .u64 0)).drew = w9
        intro hK9 hv9 hB9
        have hv10 : Box4 (w9.putObj D (.deferred none)) w.heap.size S4.nil := (World.putObj_heap_other (by omega)).trans hv9
        obtain ⟨d0, d1, d2, d3⟩ := hv10.cells
        exact ⟨unclV (S4.nil, g'.at', g'.e), by simp [results, Tryd.results14, unclV, S4.nil, go_sem, d0, d1, d2, d3], ⟨mb, by rw [HU2.out]⟩, hB9.trans (belowK_b (w := w) (Nat.le_refl _) w9 D _ _ (by simp at hD; omega) hK9 rfl rfl)⟩
  case stop =>
    intro D c W hD h hK
    exact h.elim
end Go.Proofs.YtjaklcmadkpmdaaDoor
