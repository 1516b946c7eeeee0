/- Unclass: its walk. -/
import Derived.Test.YtjaklcmadkpmdaaDoorQuoSb
set_option linter.unusedVariables false
set_option linter.unusedSimpArgs false
namespace Go.Proofs.YtjaklcmadkpmdaaDoor
open Go Go.RowKit Go.Shelf
attribute [local go_sem] Oper.semAt_some

set_option maxRecDepth 100000 in
set_option maxHeartbeats 40000000 in
theorem unclass_plain {W0 w : World} (hI : Inv W0) (hb0 : Below W0.heap.size W0 w) (t : ByteArray) (hs : t.size ≤ 20000) (n : Nat) (hn : t.size < n) (HYP : ∀ mb, ((rd0 true t mb).expect 91).e = 0 ∧ ((rd0 true t mb).expect 91).next 94 = false) :
    Calls Tryd.prog 14 #[.string t] w fun e w' => (∃ mb, e = .returned (unclV (uncl t mb n))) ∧ Below w.heap.size w w' := by
  refine callsIn_wide.1 (?_ : CallsIn Fence.wide 4 _ _ _ _ _)
  have hro : Fence.wide.round = none := rfl
  have HI := Lib.hid hI
  clear hI
  refine callsIn_of_wp_marks Tryd.func14 rfl trivial ?_ hro
  simp only [Tryd.ntmps14, List.size_toArray, List.length_cons, List.length_nil, Nat.reduceAdd, Nat.reduceSub, Array.replicate_succ, Array.replicate_zero, List.push_toArray, List.append_toArray, List.nil_append, List.cons_append]
  gi_wp2_with fail
  refine ⟨trivial, (callsIn_wide.2 (show Calls Tryd.prog 26 #[.string t, .int .u8 91, .string ⟨#[92, 93, 45, 94]⟩] (w.alloc _) _ from begin_cls t (by omega) 91 (w.alloc _))).mono ?_⟩
  rintro e w1 ⟨b, mb, rfl, hb, hmb, hne, hr, hm, hB⟩
  have hbs0 : Box4 w1 w.heap.size S4.nil := (Box4.new w S4.nil).below hB (Box4.new w S4.nil).lt
  have hB1 : Below w.heap.size w w1 := ((Below.refl _ w).alloc (Nat.le_refl _) _).trans (hB.mono (by simp))
  rw [World.size_alloc] at hb hmb
  have hX : ∀ {k : Nat} {o : Obj}, w1.heap[k]? = some o → (w1.alloc (.cells #[.pointer (some ⟨b, 0, none⟩)] 55)).heap[k]? = some o := fun h => (Below.heap_alloc _ _ _ (Array.getElem?_eq_some_iff.1 h).1).trans h
  have hr1 : RdAt (w1.alloc (.cells #[.pointer (some ⟨b, 0, none⟩)] 55)) b ((rd0 true t mb).expect 91) := hX hr
  have hm1 : MapAt (w1.alloc (.cells #[.pointer (some ⟨b, 0, none⟩)] 55)) mb (behL true) := hX hm
  have hbs1 : Box4 (w1.alloc (.cells #[.pointer (some ⟨b, 0, none⟩)] 55)) w.heap.size S4.nil := hX hbs0
  have hbr1 : Boxed (w1.alloc (.cells #[.pointer (some ⟨b, 0, none⟩)] 55)) w1.heap.size 55 (.pointer (some ⟨b, 0, none⟩)) := Boxed.new w1 _ _
  have hB2 : Below w.heap.size w (w1.alloc (.cells #[.pointer (some ⟨b, 0, none⟩)] 55)) := hB1.alloc hB1.size _
  have hbl := hr.lt
  have hmbl : mb < w1.heap.size := (Array.getElem?_eq_some_iff.1 hm).1
  have hE : ((rd0 true t mb).expect 91).at' ≤ t.size ∧ (rd0 true t mb).like ((rd0 true t mb).expect 91) := by
    unfold Rd.expect
    split
    · exact ⟨Nat.zero_le _, Rd.like.refl _⟩
    · split
      · rename_i hx
        exact ⟨next_lt hx, ⟨rfl, rfl, rfl⟩⟩
      · exact ⟨Nat.zero_le _, Rd.bad_like _⟩
  have hU0 : ∀ S f, (if decide (((rd0 true t mb).expect 91).e = 0) && ((rd0 true t mb).expect 91).next 94 then ((rd0 true t mb).expect 91).up else (rd0 true t mb).expect 91).items n S4.nil = (S, f) →
      uncl t mb n = if (f.expect 93).e ≠ 0 then (S4.nil, (f.expect 93).at', (f.expect 93).e) else ((if decide (((rd0 true t mb).expect 91).e = 0) && ((rd0 true t mb).expect 91).next 94 then S.not else S), (f.expect 93).at', 0) := fun S f h => by
    unfold uncl
    dsimp only
    rw [h]
  have hh := HYP mb
  obtain ⟨r0, hr0⟩ : ∃ r0, r0 = (rd0 true t mb).expect 91 := ⟨_, rfl⟩
  rw [← hr0] at hr1 hE hU0 hh
  obtain ⟨x0, x1, x2, x3, x4⟩ := hr1.cells
  clear hr hr0 hX hbs0
  obtain ⟨he, hnx⟩ := hh
  have he1 : ((r0.e : Int) == 0) = true := by rw [beq_iff_eq]; omega
  have HU := Lib.hid (show ∀ S f, r0.items n S4.nil = (S, f) → uncl t mb n = if (f.expect 93).e ≠ 0 then (S4.nil, (f.expect 93).at', (f.expect 93).e) else (S, (f.expect 93).at', 0) from by
    intro S f h
    have := hU0 S f
    rw [hnx] at this
    simp only [Bool.and_false, Bool.false_eq_true, if_false] at this
    exact this h)
  have HNX := Lib.hid (show ∀ W : World, RdAt W b r0 → Calls Tryd.prog 32 #[.pointer (some ⟨b, 0, none⟩), .int .u8 94] W fun e w' => e = .returned (.bool false) ∧ Below W.heap.size W w' from fun W h => by have := next_any W b r0 h 94; rw [hnx] at this; exact this)
  clear hU0 hnx
  gi_wp2_with fail
  refine ⟨trivial, (callsIn_wide.2 (HNX.out _ hr1)).mono ?_⟩
  rintro e w2 ⟨rfl, hb2⟩
  have hsz1 : (w1.alloc (.cells #[.pointer (some ⟨b, 0, none⟩)] 55)).heap.size = w1.heap.size + 1 := by simp
  have hr2 := hr1.below hb2 hr1.lt
  have hm2 : MapAt w2 mb (behL true) := (hb2.block mb (by omega)).trans hm1
  have hbs2 : Box4 w2 w.heap.size S4.nil := hbs1.below hb2 hbs1.lt
  have hbr2 : Boxed w2 w1.heap.size 55 (.pointer (some ⟨b, 0, none⟩)) := (hb2.block _ (by omega)).trans hbr1
  have hB3 := bstep hB2 hb2
  have hs2 := hb2.size
  have hR := hE
  clear hr1 hm1 hbs1 hbr1 hB2 HNX x0 x1 x2 x3 x4 hb2
  obtain ⟨x0, x1, x2, x3, x4⟩ := hr2.cells
  have hcr := hbr2.cell
  have hY : ∀ {k : Nat} {o : Obj}, w2.heap[k]? = some o → ((w2.alloc (.cells #[.int .i64 r0.at'] 3)).alloc (.cells #[.pointer (some ⟨b, 0, none⟩)] 55)).heap[k]? = some o := fun h => by
    have hl := (Array.getElem?_eq_some_iff.1 h).1
    exact (Below.heap_alloc _ _ _ (by simp; omega)).trans ((Below.heap_alloc _ _ _ hl).trans h)
  have hcr3 : (w2.alloc (.cells #[.int .i64 r0.at'] 3)).cell? ⟨w1.heap.size, 0, none⟩ = some (.pointer (some ⟨b, 0, none⟩)) := Boxed.cell (hbr2.alloc _)
  have hr3 : RdAt ((w2.alloc (.cells #[.int .i64 r0.at'] 3)).alloc (.cells #[.pointer (some ⟨b, 0, none⟩)] 55)) b r0 := hY hr2
  have hm3 : MapAt ((w2.alloc (.cells #[.int .i64 r0.at'] 3)).alloc (.cells #[.pointer (some ⟨b, 0, none⟩)] 55)) mb (behL true) := hY hm2
  have hbs3 : Box4 ((w2.alloc (.cells #[.int .i64 r0.at'] 3)).alloc (.cells #[.pointer (some ⟨b, 0, none⟩)] 55)) w.heap.size S4.nil := hY hbs2
  have hbr3 : Boxed ((w2.alloc (.cells #[.int .i64 r0.at'] 3)).alloc (.cells #[.pointer (some ⟨b, 0, none⟩)] 55)) w1.heap.size 55 (.pointer (some ⟨b, 0, none⟩)) := hY hbr2
  have hbf3 : Boxed ((w2.alloc (.cells #[.int .i64 r0.at'] 3)).alloc (.cells #[.pointer (some ⟨b, 0, none⟩)] 55)) w2.heap.size 3 (.int .i64 r0.at') := (Boxed.new w2 _ _).alloc _
  have hbx3 : ((w2.alloc (.cells #[.int .i64 r0.at'] 3)).alloc (.cells #[.pointer (some ⟨b, 0, none⟩)] 55)).heap[w2.heap.size + 1]? = some (.cells #[.pointer (some ⟨b, 0, none⟩)] 55) := by have := World.alloc_heap_new (w2.alloc (.cells #[.int .i64 r0.at'] 3)) (.cells #[.pointer (some ⟨b, 0, none⟩)] 55); rwa [World.size_alloc] at this
  have hB4 : Below w.heap.size w ((w2.alloc (.cells #[.int .i64 r0.at'] 3)).alloc (.cells #[.pointer (some ⟨b, 0, none⟩)] 55)) := (hB3.alloc hB3.size _).alloc (by simp; have := hB3.size; omega) _
  gi_wp2_with fail
  refine ⟨trivial, (signs_in 3 b _).mono ?_⟩
  rintro e w' ⟨rfl, rfl⟩
  have h0w : W0.heap.size ≤ w.heap.size := hb0.size
  have hw12 := hs2
  gi_wp2_with fail
  have hO : OwnR W0 true t b mb (w2.heap.size + 1) r0 ((w2.alloc (.cells #[.int .i64 r0.at'] 3)).alloc (.cells #[.pointer (some ⟨b, 0, none⟩)] 55)) := ⟨hr3, hR.2.1, by omega, hR.2.2.1, hR.2.2.2, hR.1, hm3, hbx3, hb0.trans (hB4.mono h0w)⟩
  refine wp_range_steered (gf := 43) (lb := #[.pointer (some ⟨w2.heap.size + 1, 0, none⟩)]) rfl (enters_of Tryd.func43 (by kernel_rfl) rfl)
    (signs_steers true HI.out 3 (by omega) t b mb (w2.heap.size + 1) (by omega) hne (by omega) r0 _) (fun _ => rfl) ?k
    (fun s W => ∃ S : S4, (s.text = t ∧ s.at' ≤ t.size ∧ S.ok ∧ GoneC r0 S s) ∧ Box4 W w.heap.size S ∧ Boxed W w1.heap.size 55 (.pointer (some ⟨b, 0, none⟩)) ∧ Boxed W w2.heap.size 3 (.int .i64 s.at') ∧ Below w.heap.size w W)
    (fun c W => c = .exit 0 ∧ ∃ (S : S4) (u : Rd), (u.e ≠ 0 ∧ u.text = t ∧ r0.items n S4.nil = (S, u)) ∧ RdAt W b u ∧ Box4 W w.heap.size S ∧ Boxed W w1.heap.size 55 (.pointer (some ⟨b, 0, none⟩)) ∧ Below w.heap.size w W) ?jk ?jo ?oo ?io ⟨S4.nil, ⟨hR.2.1, hR.1, S4.ok_nil, GoneC.start _⟩, hbs3, hbr3, hbf3, hB4⟩ hO
    (fun x => { tmps := #[.string t, undef, .pointer (some ⟨w.heap.size, 0, none⟩), .int .i64 0, .int .i64 0, .pointer (some ⟨w1.heap.size, 0, none⟩), .bool false, .pointer (some ⟨w2.heap.size, 0, none⟩), .int .u8 x.toNat, undef, .string t, .pointer (some ⟨b, 0, none⟩), .pointer (some ⟨b, 0, none⟩), .pointer (some ⟨b, 0, none⟩), .pointer (some ⟨b, 4, none⟩), .int .i64 0, .bool true, .bool true, .pointer (some ⟨b, 0, none⟩), .bool false, .bool false, .bool false, undef, undef, undef, undef, undef, undef, undef, .pointer (some ⟨b, 0, none⟩), .pointer (some ⟨b, 0, none⟩), .pointer (some ⟨b, 3, none⟩), .int .i64 r0.at', .pointer (some ⟨b, 0, none⟩), .func (.func 43) #[] #[.pointer (some ⟨w2.heap.size + 1, 0, none⟩)], .int .u8 x.toNat, undef, undef, undef, undef, undef, undef, undef, undef, undef, undef, undef, undef, undef, undef, undef, undef, undef, undef, undef, undef, undef, undef, undef, undef, undef, undef, undef, undef, undef, undef, undef, undef, undef, undef, undef, undef, undef, undef, undef, undef, undef, undef, undef, undef, undef, undef, undef, undef, undef, undef, undef, undef, undef, undef, undef, undef, undef, undef, undef, undef, undef, undef, undef, undef, undef, undef, undef], defers := [] }) ?assign ?body ?done ?stop
  case k =>
    intro X Y h
    exact ⟨h.size, fun k o hB hk _ => (h.block k (Array.getElem?_eq_some_iff.1 hk).1 (by simp at hB; omega)).trans hk⟩
  case jk =>
    rintro s X Y ⟨S, hg, hv, hbr, hbf, hBX⟩ hXY
    exact ⟨S, hg, (hXY.block _ hv.lt (by omega)).trans hv, (hXY.block _ hbr.lt (by omega)).trans hbr, (hXY.block _ hbf.lt (by omega)).trans hbf, hBX.trans (hXY.below (by omega) hBX.size)⟩
  case jo =>
    rintro s X Y row ⟨S, hg, hv, hbr, hbf, hBX⟩ hXY hrw
    have kp : ∀ k o, k < w2.heap.size + 2 → X.heap[k]? = some o → Y.heap[k]? = some o := fun k o hk ho => (hXY.block k (Array.getElem?_eq_some_iff.1 ho).1 (fun e => by have := (hrw k e.symm).1; simp at this; omega)).trans ho
    exact ⟨S, hg, kp _ _ (by omega) hv, kp _ _ (by omega) hbr, kp _ _ (by omega) hbf, hBX.grown hXY hBX.size (fun k e => by have := (hrw k e).1; simp at *; omega)⟩
  case oo =>
    rintro s X Y row h hXY hrw
    have kp : ∀ k o, k < w2.heap.size + 2 → X.heap[k]? = some o → Y.heap[k]? = some o := fun k o hk ho => (hXY.block k (Array.getElem?_eq_some_iff.1 ho).1 (fun e => by have := (hrw k e.symm).1; simp at this; omega)).trans ho
    exact ⟨kp _ _ (by omega) h.at_, h.text, h.size, h.bare, h.mp, h.le, kp _ _ (by omega) h.map, kp _ _ (by omega) h.box, h.base.grown hXY h.base.size (fun k e => by have := (hrw k e).1; simp at *; omega)⟩
  case io =>
    rintro c X Y row ⟨hc, S, u, hu, hru, hv, hbr, hBX⟩ hXY hrw
    have kp : ∀ k o, k < w2.heap.size + 2 → X.heap[k]? = some o → Y.heap[k]? = some o := fun k o hk ho => (hXY.block k (Array.getElem?_eq_some_iff.1 ho).1 (fun e => by have := (hrw k e.symm).1; simp at this; omega)).trans ho
    exact ⟨hc, S, u, hu, kp _ _ (by omega) hru, kp _ _ (by omega) hv, kp _ _ (by omega) hbr, hBX.grown hXY hBX.size (fun k e => by have := (hrw k e).1; simp at *; omega)⟩
  case assign =>
    intro l x W K hK
    gi_wp2
    exact hK
  case body =>
    rintro l s x u W hl hrec ⟨S, hg, hv, hbr, hbf, hBX⟩ ho ⟨a1, a2, a3, a4⟩
    have hat := s.sign_on true (by rw [hg.1]; exact hg.2.1)
    rw [a3] at hat
    have hlt := hat.2 a4
    dsimp only at hlt
    have hcr := hbr.cell
    have ru := ho.at_
    obtain ⟨x0, x1, x2, x3, x4⟩ := ru.cells
    have hbW : Below W0.heap.size W0 W := ho.base
    have hu0 : ((u.e : Int) != 0) = false := by rw [bne_eq_false_iff_eq]; omega
    have hu1 : ((u.e : Int) == 0) = true := by rw [beq_iff_eq]; omega
    have HG := Lib.hid hg
    have HS3 := Lib.hid a3
    clear hg a3 hat
    cases hn45 : u.next 45 with
    | false =>
      as_aux_lemma =>
        have hit : s.item = (u, x, x) := item_one HS3.out a4 hn45
        have HIT := Lib.hid hit
        have HON := Lib.hid (show OnR u u from ⟨Rd.like.refl _, Nat.le_refl _⟩)
        have HUE := Lib.hid a4
        have HNX := Lib.hid (show Calls Tryd.prog 32 #[.pointer (some ⟨b, 0, none⟩), .int .u8 45] W fun e w' => e = .returned (.bool false) ∧ Below W.heap.size W w' from by have := next_any W b u ru 45; rw [hn45] at this; exact this)
        clear hit hn45
        gi_wp2_with fail
        refine ⟨trivial, (CallsIn.inRound l (callsIn_wide.2 HNX.out)).mono ?_⟩
        rintro e w3 ⟨rfl, hb3⟩
        have ho3 := ho.after (Only.of hb3) (ru.below hb3 ru.lt) (Rd.like.refl u) ho.le hne (by omega) (by omega)
        have hv3 : Box4 w3 w.heap.size S := hv.below hb3 hv.lt
        have hbr3x : Boxed w3 w1.heap.size 55 (.pointer (some ⟨b, 0, none⟩)) := (hb3.block _ hbr.lt).trans hbr
        have hbf3x : Boxed w3 w2.heap.size 3 (.int .i64 s.at') := (hb3.block _ hbf.lt).trans hbf
        have hBX3 := bstep hBX hb3
        have HKF3 : KeepsFrom ((w2.alloc (.cells #[.int .i64 r0.at'] 3)).alloc (.cells #[.pointer (some ⟨b, 0, none⟩)] 55)).heap.size W w3 := ⟨hb3.size, fun k o _ hk _ => (hb3.block k (Array.getElem?_eq_some_iff.1 hk).1).trans hk⟩
        clear hcr x0 x1 x2 x3 x4 HNX hv hbr hbf ho
        obtain ⟨x0, x1, x2, x3, x4⟩ := ho3.at_.cells
        have hcr := hbr3x.cell
        have ru3 := ho3.at_
        gi_wp2_with fail
        clear hbr3 hbf3
        have hbr3 := hbr3x
        have hbf3 := hbf3x
        obtain ⟨R, hRe⟩ : ∃ R, R = rg x x := ⟨_, rfl⟩
        have HRG := Lib.hid (show ∀ w : World, Calls Tryd.prog 35 #[.int .u8 x.toNat, .int .u8 x.toNat] w fun e w' => e = .returned R.v ∧ Below w.heap.size w w' from fun w => by rw [hRe]; exact range_any x.toNat x.toNat (UInt8.toNat_lt _) (UInt8.toNat_lt _) w)
        have hRok : R.ok := by rw [hRe]; exact S4.ok_ofL _ S4.ok_nil
        obtain ⟨T, hTe⟩ : ∃ T, T = S.or R := ⟨_, rfl⟩
        have HOR := Lib.hid (show ∀ w : World, Calls Tryd.prog 34 #[S.v, R.v] w fun e w' => e = .returned T.v ∧ Below w.heap.size w w' from fun w => by rw [hTe]; exact or_any S R HG.out.2.2.1 hRok w)
        have HTok := Lib.hid (show T.ok by rw [hTe]; exact S4.ok_or HG.out.2.2.1 hRok)
        have HTe := Lib.hid (show T = S.or (rg x x) by rw [hTe, hRe])
        clear hRe hRok hTe
        refine wpIn_region_held_round (S := (fun w' => w'.cell? ⟨w1.heap.size, 0, none⟩ = some (.pointer (some ⟨b, 0, none⟩)) ∧ w'.cell? ⟨b, 0, none⟩ = some (.string u.text) ∧ w'.cell? ⟨b, 1, none⟩ = some (.string u.bare) ∧ w'.cell? ⟨b, 2, none⟩ = some u.mp ∧ w'.cell? ⟨b, 3, none⟩ = some (.int .i64 u.at') ∧ w'.cell? ⟨b, 4, none⟩ = some (.int .i64 u.e))) (by kernel_rfl) (by kernel_rfl) ⟨hcr, x0, x1, x2, x3, x4⟩ (fun hHeld => ?_)
        refine wpAnyH_take (i := 1) (v := ?_) rfl (by kernel_rfl) (by kernel_rfl) (by kernel_rfl) (fun _ _ _ h => h) (Or.inl ⟨by kernel_rfl, ?_⟩) (by assumption) ?_
        rotate_left
        · (intro w hSw; (try dsimp only at hSw); go_simp; (try with_reducible rfl))
        try simp only [Act.put, List.getElem_toArray, List.getElem_cons_zero, List.getElem_cons_succ, List.setIfInBounds_toArray, List.set_cons_zero, List.set_cons_succ]
        refine wpAnyH_take (i := 2) (v := ?_) rfl (by kernel_rfl) (by kernel_rfl) (by kernel_rfl) (fun _ _ _ h => h) (Or.inl ⟨by kernel_rfl, ?_⟩) (by assumption) ?_
        rotate_left
        · (intro w hSw; (try dsimp only at hSw); go_simp; (try with_reducible rfl))
        try simp only [Act.put, List.getElem_toArray, List.getElem_cons_zero, List.getElem_cons_succ, List.setIfInBounds_toArray, List.set_cons_zero, List.set_cons_succ]
        refine wpAnyH_take (i := 5) (v := ?_) rfl (by kernel_rfl) (by kernel_rfl) (by kernel_rfl) (fun _ _ _ h => h) (Or.inl ⟨by kernel_rfl, ?_⟩) (by assumption) ?_
        rotate_left
        · (intro w hSw; (try dsimp only at hSw); go_simp; (try with_reducible rfl))
        try simp only [Act.put, List.getElem_toArray, List.getElem_cons_zero, List.getElem_cons_succ, List.setIfInBounds_toArray, List.set_cons_zero, List.set_cons_succ]
        refine wpAnyH_take (i := 6) (v := ?_) rfl (by kernel_rfl) (by kernel_rfl) (by kernel_rfl) (fun _ _ _ h => h) (Or.inl ⟨by kernel_rfl, ?_⟩) (by assumption) ?_
        rotate_left
        · (intro w hSw; (try dsimp only at hSw); go_simp; (try with_reducible rfl))
        try simp only [Act.put, List.getElem_toArray, List.getElem_cons_zero, List.getElem_cons_succ, List.setIfInBounds_toArray, List.set_cons_zero, List.set_cons_succ]
        refine wpAnyH_take (i := 7) (v := ?_) rfl (by kernel_rfl) (by kernel_rfl) (by kernel_rfl) (fun _ _ _ h => h) (Or.inl ⟨by kernel_rfl, ?_⟩) (by assumption) ?_
        rotate_left
        · (intro w hSw; (try dsimp only at hSw); go_simp; (try with_reducible rfl))
        try simp only [Act.put, List.getElem_toArray, List.getElem_cons_zero, List.getElem_cons_succ, List.setIfInBounds_toArray, List.set_cons_zero, List.set_cons_succ]
        refine wpAnyH_take (i := 8) (v := ?_) rfl (by kernel_rfl) (by kernel_rfl) (by kernel_rfl) (fun _ _ _ h => h) (Or.inl ⟨by kernel_rfl, ?_⟩) (by assumption) ?_
        rotate_left
        · (intro w hSw; (try dsimp only at hSw); go_simp; (try with_reducible rfl))
        try simp only [Act.put, List.getElem_toArray, List.getElem_cons_zero, List.getElem_cons_succ, List.setIfInBounds_toArray, List.set_cons_zero, List.set_cons_succ]
        refine wpAnyH_ready (rs := [0, 3]) (by kernel_rfl) (by simp) (AllReadyH.cons rfl (fun K hK => ?_) (AllReadyH.cons rfl (fun K hK => ?_) AllReadyH.nil))
        · obtain ⟨c0, c1, c2, c3⟩ := hv3.cells
          go_simp
          clear hHeld
          refine hK.out _ _ ⟨hcr, x0, x1, x2, x3, x4⟩ (fun hHeld => ?_)
          clear hK K
          try simp only [Act.put, List.getElem_toArray, List.getElem_cons_zero, List.getElem_cons_succ, List.setIfInBounds_toArray, List.set_cons_zero, List.set_cons_succ]
          clear c0 c1 c2 c3
          refine wpAnyH_ready (rs := [3]) (by kernel_rfl) (by simp) (AllReadyH.cons rfl (fun K hK => ?_) AllReadyH.nil)
          go_simp
          go_at_call 35
          refine (HRG.out _).mono ?_
          rintro e w4 ⟨rfl, hb4⟩
          replace hb4 : Below w3.heap.size w3 w4 := (Below.refl _ w3).drew.trans hb4
          have ho4 := ho3.after (Only.of hb4) (ho3.at_.below hb4 ho3.at_.lt) (Rd.like.refl _) ho3.le hne (by omega) (by omega)
          have hv4 : Box4 w4 w.heap.size S := hv3.below hb4 hv3.lt
          have hbr4 : Boxed w4 w1.heap.size 55 (.pointer (some ⟨b, 0, none⟩)) := (hb4.block _ hbr3.lt).trans hbr3
          have hbf4 : Boxed w4 w2.heap.size 3 (.int .i64 s.at') := (hb4.block _ hbf3.lt).trans hbf3
          have hBX4 := bstep hBX3 hb4
          have HKF4 : KeepsFrom ((w2.alloc (.cells #[.int .i64 r0.at'] 3)).alloc (.cells #[.pointer (some ⟨b, 0, none⟩)] 55)).heap.size W w4 := HKF3.trans ⟨hb4.size, fun k o _ hk _ => (hb4.block k (Array.getElem?_eq_some_iff.1 hk).1).trans hk⟩
          clear hcr x0 x1 x2 x3 x4
          obtain ⟨x0, x1, x2, x3, x4⟩ := ho4.at_.cells
          have hcr := hbr4.cell
          clear hHeld
          refine hK.out _ _ ⟨hcr, x0, x1, x2, x3, x4⟩ (fun hHeld => ?_)
          clear hK K
          try simp only [Act.put, List.getElem_toArray, List.getElem_cons_zero, List.getElem_cons_succ, List.setIfInBounds_toArray, List.set_cons_zero, List.set_cons_succ]
          refine wpAnyH_ready (rs := [4]) (by kernel_rfl) (by simp) (AllReadyH.cons rfl (fun K hK => ?_) AllReadyH.nil)
          go_simp
          go_at_call 34
          refine (HOR.out _).mono ?_
          rintro e w5 ⟨rfl, hb5⟩
          have ho5 := ho4.after (Only.of hb5) (ho4.at_.below hb5 ho4.at_.lt) (Rd.like.refl _) ho4.le hne (by omega) (by omega)
          have hv5 : Box4 w5 w.heap.size S := hv4.below hb5 hv4.lt
          have hbr5 : Boxed w5 w1.heap.size 55 (.pointer (some ⟨b, 0, none⟩)) := (hb5.block _ hbr4.lt).trans hbr4
          have hbf5 : Boxed w5 w2.heap.size 3 (.int .i64 s.at') := (hb5.block _ hbf4.lt).trans hbf4
          have hBX5 := bstep hBX4 hb5
          have HKF5 : KeepsFrom ((w2.alloc (.cells #[.int .i64 r0.at'] 3)).alloc (.cells #[.pointer (some ⟨b, 0, none⟩)] 55)).heap.size W w5 := HKF4.trans ⟨hb5.size, fun k o _ hk _ => (hb5.block k (Array.getElem?_eq_some_iff.1 hk).1).trans hk⟩
          clear hcr x0 x1 x2 x3 x4
          obtain ⟨x0, x1, x2, x3, x4⟩ := ho5.at_.cells
          have hcr := hbr5.cell
          clear hHeld
          refine hK.out _ _ ⟨hcr, x0, x1, x2, x3, x4⟩ (fun hHeld => ?_)
          clear hK K
          try simp only [Act.put, List.getElem_toArray, List.getElem_cons_zero, List.getElem_cons_succ, List.setIfInBounds_toArray, List.set_cons_zero, List.set_cons_succ]
          obtain ⟨f0, f1, f2, f3⟩ := hv5.free
          obtain ⟨d0, d1, d2, d3⟩ := hv5.cells
          refine wpAnyH_ready (rs := [9]) (by kernel_rfl) (by simp) (AllReadyH.cons rfl (fun K hK => ?_) AllReadyH.nil)
          go_simp
          have hv6 := hv5.store T
          have kp6 : ∀ k, k ≠ w.heap.size → ((((w5.setCell ⟨w.heap.size, 0, none⟩ (.int .u64 T.a)).setCell ⟨w.heap.size, 1, none⟩ (.int .u64 T.b)).setCell ⟨w.heap.size, 2, none⟩ (.int .u64 T.c)).setCell ⟨w.heap.size, 3, none⟩ (.int .u64 T.d)).heap[k]? = w5.heap[k]? := fun k hk => (Below.heap_setCell _ _ _ _ hk).trans ((Below.heap_setCell _ _ _ _ hk).trans ((Below.heap_setCell _ _ _ _ hk).trans (Below.heap_setCell _ _ _ _ hk)))
          have hBX6 : Below w.heap.size w ((((w5.setCell ⟨w.heap.size, 0, none⟩ (.int .u64 T.a)).setCell ⟨w.heap.size, 1, none⟩ (.int .u64 T.b)).setCell ⟨w.heap.size, 2, none⟩ (.int .u64 T.c)).setCell ⟨w.heap.size, 3, none⟩ (.int .u64 T.d)) := (((hBX5.setCell (Nat.le_refl _) _).setCell (Nat.le_refl _) _).setCell (Nat.le_refl _) _).setCell (Nat.le_refl _) _
          have hsz6 : ((((w5.setCell ⟨w.heap.size, 0, none⟩ (.int .u64 T.a)).setCell ⟨w.heap.size, 1, none⟩ (.int .u64 T.b)).setCell ⟨w.heap.size, 2, none⟩ (.int .u64 T.c)).setCell ⟨w.heap.size, 3, none⟩ (.int .u64 T.d)).heap.size = w5.heap.size := by simp
          have hOB := Lib.hid (show Below W0.heap.size W0 w from hb0)
          revert hv6 kp6 hBX6 hsz6
          generalize ((((w5.setCell ⟨w.heap.size, 0, none⟩ (.int .u64 T.a)).setCell ⟨w.heap.size, 1, none⟩ (.int .u64 T.b)).setCell ⟨w.heap.size, 2, none⟩ (.int .u64 T.c)).setCell ⟨w.heap.size, 3, none⟩ (.int .u64 T.d)) = w6
          intro hv6 kp6 hBX6 hsz6
          have ho6 : OwnR W0 true t b mb (w2.heap.size + 1) u w6 := ⟨(kp6 b (by omega)).trans ho5.at_, ho5.text, ho5.size, ho5.bare, ho5.mp, ho5.le, (kp6 mb (by omega)).trans ho5.map, (kp6 _ (by omega)).trans ho5.box, hOB.out.trans (hBX6.mono hOB.out.size)⟩
          have hbr6 : Boxed w6 w1.heap.size 55 (.pointer (some ⟨b, 0, none⟩)) := (kp6 _ (by omega)).trans hbr5
          have hbf6 : Boxed w6 w2.heap.size 3 (.int .i64 s.at') := (kp6 _ (by omega)).trans hbf5
          have HKF6 : KeepsFrom ((w2.alloc (.cells #[.int .i64 r0.at'] 3)).alloc (.cells #[.pointer (some ⟨b, 0, none⟩)] 55)).heap.size W w6 := HKF5.trans ⟨Nat.le_of_eq hsz6.symm, fun k o hB hk _ => (kp6 k (by simp at hB; omega)).trans hk⟩
          clear hcr x0 x1 x2 x3 x4 f0 f1 f2 f3 d0 d1 d2 d3
          obtain ⟨x0, x1, x2, x3, x4⟩ := ho6.at_.cells
          have hcr := hbr6.cell
          clear hHeld
          refine hK.out _ _ ⟨hcr, x0, x1, x2, x3, x4⟩ (fun hHeld => ?_)
          clear hK K
          try simp only [Act.put, List.getElem_toArray, List.getElem_cons_zero, List.getElem_cons_succ, List.setIfInBounds_toArray, List.set_cons_zero, List.set_cons_succ]
          have g0 := hbf6.cell
          have g1 := hbf6.frozen
          refine wpAnyH_ready (rs := [10]) (by kernel_rfl) (by simp) (AllReadyH.cons rfl (fun K hK => ?_) AllReadyH.nil)
          go_simp
          have hbf7 := hbf6.set (.int .i64 u.at')
          have kp7 : ∀ k, k ≠ w2.heap.size → (w6.setCell ⟨w2.heap.size, 0, none⟩ (.int .i64 u.at')).heap[k]? = w6.heap[k]? := fun k hk => Below.heap_setCell _ _ _ _ hk
          have hBX7 : Below w.heap.size w (w6.setCell ⟨w2.heap.size, 0, none⟩ (.int .i64 u.at')) := hBX6.setCell (by show w.heap.size ≤ w2.heap.size; omega) _
          have hsz7 : (w6.setCell ⟨w2.heap.size, 0, none⟩ (.int .i64 u.at')).heap.size = w6.heap.size := by simp
          revert hbf7 kp7 hBX7 hsz7
          generalize w6.setCell ⟨w2.heap.size, 0, none⟩ (.int .i64 u.at') = w7
          intro hbf7 kp7 hBX7 hsz7
          have ho7 : OwnR W0 true t b mb (w2.heap.size + 1) u w7 := ⟨(kp7 b (by omega)).trans ho6.at_, ho6.text, ho6.size, ho6.bare, ho6.mp, ho6.le, (kp7 mb (by omega)).trans ho6.map, (kp7 _ (by omega)).trans ho6.box, hOB.out.trans (hBX7.mono hOB.out.size)⟩
          have hbr7 : Boxed w7 w1.heap.size 55 (.pointer (some ⟨b, 0, none⟩)) := (kp7 _ (by omega)).trans hbr6
          have hv7 : Box4 w7 w.heap.size T := (kp7 _ (by omega)).trans hv6
          have HKF7 : KeepsFrom ((w2.alloc (.cells #[.int .i64 r0.at'] 3)).alloc (.cells #[.pointer (some ⟨b, 0, none⟩)] 55)).heap.size W w7 := HKF6.trans ⟨Nat.le_of_eq hsz7.symm, fun k o hB hk _ => (kp7 k (by simp at hB; omega)).trans hk⟩
          clear hcr x0 x1 x2 x3 x4 g0 g1
          obtain ⟨x0, x1, x2, x3, x4⟩ := ho7.at_.cells
          have hcr := hbr7.cell
          clear hHeld
          refine hK.out _ _ ⟨hcr, x0, x1, x2, x3, x4⟩ (fun hHeld => ?_)
          clear hK K
          try simp only [Act.put, List.getElem_toArray, List.getElem_cons_zero, List.getElem_cons_succ, List.setIfInBounds_toArray, List.set_cons_zero, List.set_cons_succ]
          refine wpAnyH_done (by kernel_rfl) ?_ _
          simp only [noOut]
          gi_wp2
          exact ⟨HKF7, u, HON.out, ho7, T, ⟨ho7.text, ho7.le, HTok.out, by rw [HTe.out]; exact HG.out.2.2.2.step a1 a2 HIT.out HUE.out hlt⟩, hv7, hbr7, hbf7, hBX7⟩
        · go_simp
          go_at_call 35
          refine (HRG.out _).mono ?_
          rintro e w4 ⟨rfl, hb4⟩
          replace hb4 : Below w3.heap.size w3 w4 := (Below.refl _ w3).drew.trans hb4
          have ho4 := ho3.after (Only.of hb4) (ho3.at_.below hb4 ho3.at_.lt) (Rd.like.refl _) ho3.le hne (by omega) (by omega)
          have hv4 : Box4 w4 w.heap.size S := hv3.below hb4 hv3.lt
          have hbr4 : Boxed w4 w1.heap.size 55 (.pointer (some ⟨b, 0, none⟩)) := (hb4.block _ hbr3.lt).trans hbr3
          have hbf4 : Boxed w4 w2.heap.size 3 (.int .i64 s.at') := (hb4.block _ hbf3.lt).trans hbf3
          have hBX4 := bstep hBX3 hb4
          have HKF4 : KeepsFrom ((w2.alloc (.cells #[.int .i64 r0.at'] 3)).alloc (.cells #[.pointer (some ⟨b, 0, none⟩)] 55)).heap.size W w4 := HKF3.trans ⟨hb4.size, fun k o _ hk _ => (hb4.block k (Array.getElem?_eq_some_iff.1 hk).1).trans hk⟩
          clear hcr x0 x1 x2 x3 x4
          obtain ⟨x0, x1, x2, x3, x4⟩ := ho4.at_.cells
          have hcr := hbr4.cell
          clear hHeld
          refine hK.out _ _ ⟨hcr, x0, x1, x2, x3, x4⟩ (fun hHeld => ?_)
          clear hK K
          try simp only [Act.put, List.getElem_toArray, List.getElem_cons_zero, List.getElem_cons_succ, List.setIfInBounds_toArray, List.set_cons_zero, List.set_cons_succ]
          obtain ⟨c0, c1, c2, c3⟩ := hv4.cells
          refine wpAnyH_ready (rs := [0]) (by kernel_rfl) (by simp) (AllReadyH.cons rfl (fun K hK => ?_) AllReadyH.nil)
          go_simp
          clear hHeld
          refine hK.out _ _ ⟨hcr, x0, x1, x2, x3, x4⟩ (fun hHeld => ?_)
          clear hK K
          try simp only [Act.put, List.getElem_toArray, List.getElem_cons_zero, List.getElem_cons_succ, List.setIfInBounds_toArray, List.set_cons_zero, List.set_cons_succ]
          clear c0 c1 c2 c3
          refine wpAnyH_ready (rs := [4]) (by kernel_rfl) (by simp) (AllReadyH.cons rfl (fun K hK => ?_) AllReadyH.nil)
          go_simp
          go_at_call 34
          refine (HOR.out _).mono ?_
          rintro e w5 ⟨rfl, hb5⟩
          have ho5 := ho4.after (Only.of hb5) (ho4.at_.below hb5 ho4.at_.lt) (Rd.like.refl _) ho4.le hne (by omega) (by omega)
          have hv5 : Box4 w5 w.heap.size S := hv4.below hb5 hv4.lt
          have hbr5 : Boxed w5 w1.heap.size 55 (.pointer (some ⟨b, 0, none⟩)) := (hb5.block _ hbr4.lt).trans hbr4
          have hbf5 : Boxed w5 w2.heap.size 3 (.int .i64 s.at') := (hb5.block _ hbf4.lt).trans hbf4
          have hBX5 := bstep hBX4 hb5
          have HKF5 : KeepsFrom ((w2.alloc (.cells #[.int .i64 r0.at'] 3)).alloc (.cells #[.pointer (some ⟨b, 0, none⟩)] 55)).heap.size W w5 := HKF4.trans ⟨hb5.size, fun k o _ hk _ => (hb5.block k (Array.getElem?_eq_some_iff.1 hk).1).trans hk⟩
          clear hcr x0 x1 x2 x3 x4
          obtain ⟨x0, x1, x2, x3, x4⟩ := ho5.at_.cells
          have hcr := hbr5.cell
          clear hHeld
          refine hK.out _ _ ⟨hcr, x0, x1, x2, x3, x4⟩ (fun hHeld => ?_)
          clear hK K
          try simp only [Act.put, List.getElem_toArray, List.getElem_cons_zero, List.getElem_cons_succ, List.setIfInBounds_toArray, List.set_cons_zero, List.set_cons_succ]
          obtain ⟨f0, f1, f2, f3⟩ := hv5.free
          obtain ⟨d0, d1, d2, d3⟩ := hv5.cells
          refine wpAnyH_ready (rs := [9]) (by kernel_rfl) (by simp) (AllReadyH.cons rfl (fun K hK => ?_) AllReadyH.nil)
          go_simp
          have hv6 := hv5.store T
          have kp6 : ∀ k, k ≠ w.heap.size → ((((w5.setCell ⟨w.heap.size, 0, none⟩ (.int .u64 T.a)).setCell ⟨w.heap.size, 1, none⟩ (.int .u64 T.b)).setCell ⟨w.heap.size, 2, none⟩ (.int .u64 T.c)).setCell ⟨w.heap.size, 3, none⟩ (.int .u64 T.d)).heap[k]? = w5.heap[k]? := fun k hk => (Below.heap_setCell _ _ _ _ hk).trans ((Below.heap_setCell _ _ _ _ hk).trans ((Below.heap_setCell _ _ _ _ hk).trans (Below.heap_setCell _ _ _ _ hk)))
          have hBX6 : Below w.heap.size w ((((w5.setCell ⟨w.heap.size, 0, none⟩ (.int .u64 T.a)).setCell ⟨w.heap.size, 1, none⟩ (.int .u64 T.b)).setCell ⟨w.heap.size, 2, none⟩ (.int .u64 T.c)).setCell ⟨w.heap.size, 3, none⟩ (.int .u64 T.d)) := (((hBX5.setCell (Nat.le_refl _) _).setCell (Nat.le_refl _) _).setCell (Nat.le_refl _) _).setCell (Nat.le_refl _) _
          have hsz6 : ((((w5.setCell ⟨w.heap.size, 0, none⟩ (.int .u64 T.a)).setCell ⟨w.heap.size, 1, none⟩ (.int .u64 T.b)).setCell ⟨w.heap.size, 2, none⟩ (.int .u64 T.c)).setCell ⟨w.heap.size, 3, none⟩ (.int .u64 T.d)).heap.size = w5.heap.size := by simp
          have hOB := Lib.hid (show Below W0.heap.size W0 w from hb0)
          revert hv6 kp6 hBX6 hsz6
          generalize ((((w5.setCell ⟨w.heap.size, 0, none⟩ (.int .u64 T.a)).setCell ⟨w.heap.size, 1, none⟩ (.int .u64 T.b)).setCell ⟨w.heap.size, 2, none⟩ (.int .u64 T.c)).setCell ⟨w.heap.size, 3, none⟩ (.int .u64 T.d)) = w6
          intro hv6 kp6 hBX6 hsz6
          have ho6 : OwnR W0 true t b mb (w2.heap.size + 1) u w6 := ⟨(kp6 b (by omega)).trans ho5.at_, ho5.text, ho5.size, ho5.bare, ho5.mp, ho5.le, (kp6 mb (by omega)).trans ho5.map, (kp6 _ (by omega)).trans ho5.box, hOB.out.trans (hBX6.mono hOB.out.size)⟩
          have hbr6 : Boxed w6 w1.heap.size 55 (.pointer (some ⟨b, 0, none⟩)) := (kp6 _ (by omega)).trans hbr5
          have hbf6 : Boxed w6 w2.heap.size 3 (.int .i64 s.at') := (kp6 _ (by omega)).trans hbf5
          have HKF6 : KeepsFrom ((w2.alloc (.cells #[.int .i64 r0.at'] 3)).alloc (.cells #[.pointer (some ⟨b, 0, none⟩)] 55)).heap.size W w6 := HKF5.trans ⟨Nat.le_of_eq hsz6.symm, fun k o hB hk _ => (kp6 k (by simp at hB; omega)).trans hk⟩
          clear hcr x0 x1 x2 x3 x4 f0 f1 f2 f3 d0 d1 d2 d3
          obtain ⟨x0, x1, x2, x3, x4⟩ := ho6.at_.cells
          have hcr := hbr6.cell
          clear hHeld
          refine hK.out _ _ ⟨hcr, x0, x1, x2, x3, x4⟩ (fun hHeld => ?_)
          clear hK K
          try simp only [Act.put, List.getElem_toArray, List.getElem_cons_zero, List.getElem_cons_succ, List.setIfInBounds_toArray, List.set_cons_zero, List.set_cons_succ]
          have g0 := hbf6.cell
          have g1 := hbf6.frozen
          refine wpAnyH_ready (rs := [10]) (by kernel_rfl) (by simp) (AllReadyH.cons rfl (fun K hK => ?_) AllReadyH.nil)
          go_simp
          have hbf7 := hbf6.set (.int .i64 u.at')
          have kp7 : ∀ k, k ≠ w2.heap.size → (w6.setCell ⟨w2.heap.size, 0, none⟩ (.int .i64 u.at')).heap[k]? = w6.heap[k]? := fun k hk => Below.heap_setCell _ _ _ _ hk
          have hBX7 : Below w.heap.size w (w6.setCell ⟨w2.heap.size, 0, none⟩ (.int .i64 u.at')) := hBX6.setCell (by show w.heap.size ≤ w2.heap.size; omega) _
          have hsz7 : (w6.setCell ⟨w2.heap.size, 0, none⟩ (.int .i64 u.at')).heap.size = w6.heap.size := by simp
          revert hbf7 kp7 hBX7 hsz7
          generalize w6.setCell ⟨w2.heap.size, 0, none⟩ (.int .i64 u.at') = w7
          intro hbf7 kp7 hBX7 hsz7
          have ho7 : OwnR W0 true t b mb (w2.heap.size + 1) u w7 := ⟨(kp7 b (by omega)).trans ho6.at_, ho6.text, ho6.size, ho6.bare, ho6.mp, ho6.le, (kp7 mb (by omega)).trans ho6.map, (kp7 _ (by omega)).trans ho6.box, hOB.out.trans (hBX7.mono hOB.out.size)⟩
          have hbr7 : Boxed w7 w1.heap.size 55 (.pointer (some ⟨b, 0, none⟩)) := (kp7 _ (by omega)).trans hbr6
          have hv7 : Box4 w7 w.heap.size T := (kp7 _ (by omega)).trans hv6
          have HKF7 : KeepsFrom ((w2.alloc (.cells #[.int .i64 r0.at'] 3)).alloc (.cells #[.pointer (some ⟨b, 0, none⟩)] 55)).heap.size W w7 := HKF6.trans ⟨Nat.le_of_eq hsz7.symm, fun k o hB hk _ => (kp7 k (by simp at hB; omega)).trans hk⟩
          clear hcr x0 x1 x2 x3 x4 g0 g1
          obtain ⟨x0, x1, x2, x3, x4⟩ := ho7.at_.cells
          have hcr := hbr7.cell
          clear hHeld
          refine hK.out _ _ ⟨hcr, x0, x1, x2, x3, x4⟩ (fun hHeld => ?_)
          clear hK K
          try simp only [Act.put, List.getElem_toArray, List.getElem_cons_zero, List.getElem_cons_succ, List.setIfInBounds_toArray, List.set_cons_zero, List.set_cons_succ]
          refine wpAnyH_done (by kernel_rfl) ?_ _
          simp only [noOut]
          gi_wp2
          exact ⟨HKF7, u, HON.out, ho7, T, ⟨ho7.text, ho7.le, HTok.out, by rw [HTe.out]; exact HG.out.2.2.2.step a1 a2 HIT.out HUE.out hlt⟩, hv7, hbr7, hbf7, hBX7⟩
    | true =>
      as_aux_lemma =>
        have HNX := Lib.hid (show Calls Tryd.prog 32 #[.pointer (some ⟨b, 0, none⟩), .int .u8 45] W fun e w' => e = .returned (.bool true) ∧ Below W.heap.size W w' from by have := next_any W b u ru 45; rw [hn45] at this; exact this)
        have HN45 := Lib.hid hn45
        have hul := next_lt hn45
        rw [ho.text] at hul
        clear hn45
        gi_wp2_with fail
        refine ⟨trivial, (CallsIn.inRound l (callsIn_wide.2 HNX.out)).mono ?_⟩
        rintro e wa ⟨rfl, hba⟩
        have hoa := ho.after (Only.of hba) (ru.below hba ru.lt) (Rd.like.refl u) ho.le hne (by omega) (by omega)
        have hva : Box4 wa w.heap.size S := hv.below hba hv.lt
        have hbra : Boxed wa w1.heap.size 55 (.pointer (some ⟨b, 0, none⟩)) := (hba.block _ hbr.lt).trans hbr
        have hbfa : Boxed wa w2.heap.size 3 (.int .i64 s.at') := (hba.block _ hbf.lt).trans hbf
        have hBXa := bstep hBX hba
        have HKFa : KeepsFrom ((w2.alloc (.cells #[.int .i64 r0.at'] 3)).alloc (.cells #[.pointer (some ⟨b, 0, none⟩)] 55)).heap.size W wa := ⟨hba.size, fun k o _ hk _ => (hba.block k (Array.getElem?_eq_some_iff.1 hk).1).trans hk⟩
        clear hcr x0 x1 x2 x3 x4 HNX hv hbr hbf ho
        obtain ⟨x0, x1, x2, x3, x4⟩ := hoa.at_.cells
        obtain ⟨f3, f4⟩ := hoa.at_.free
        have hcr := hbra.cell
        have hua : RdAt (wa.setCell ⟨b, 3, none⟩ (.int .i64 ((u.at' : Int) + 1))) b u.up := by have q := hoa.at_.setAt (u.at' + 1); simp only [Int.natCast_add, Int.natCast_one] at q; exact q
        have hOa : Only b wa (wa.setCell ⟨b, 3, none⟩ (.int .i64 ((u.at' : Int) + 1))) := (Only.of (Below.refl _ wa)).setCell 3 _
        have hob : OwnR W0 true t b mb (w2.heap.size + 1) u.up (wa.setCell ⟨b, 3, none⟩ (.int .i64 ((u.at' : Int) + 1))) := hoa.after hOa hua u.up_like hul hne (by omega) (by omega)
        have hbrb : Boxed (wa.setCell ⟨b, 3, none⟩ (.int .i64 ((u.at' : Int) + 1))) w1.heap.size 55 (.pointer (some ⟨b, 0, none⟩)) := (Below.heap_setCell _ _ _ _ (by show w1.heap.size ≠ b; omega)).trans hbra
        have hcrb := hbrb.cell
        obtain ⟨p, hp⟩ : ∃ p, p = u.up.sign true := ⟨_, rfl⟩
        have hvl := u.up.sign_on true (by rw [hob.text]; exact hob.le)
        have hvk := u.up.sign_like true
        have HSG := Lib.hid (reader_sign true HI.out hob.base b (by omega) u.up hua (by rw [hob.text]; omega) hob.bare mb hob.mp hne hob.map)
        rw [← hp] at hvl hvk HSG
        obtain ⟨y, v⟩ := p
        dsimp only at hvl hvk HSG
        rw [hob.text] at hvl
        have hi2 := item_two HS3.out a4 HN45.out hp.symm
        clear hp
        gi_wp2_with fail
        refine ⟨trivial, (CallsIn.inRound l (callsIn_wide.2 HSG.out)).mono ?_⟩
        rintro e w3 ⟨rfl, hv3r, hO3⟩
        have hO03 : Only b wa w3 := hOa.trans hO3
        have ho3 : OwnR W0 true t b mb (w2.heap.size + 1) v w3 := hob.after hO3 hv3r hvk hvl.1 hne (by omega) (by omega)
        have hv3 : Box4 w3 w.heap.size S := (hO03.block _ hva.lt (by omega)).trans hva
        have hbr3 : Boxed w3 w1.heap.size 55 (.pointer (some ⟨b, 0, none⟩)) := (hO03.block _ hbra.lt (by omega)).trans hbra
        have hbf3 : Boxed w3 w2.heap.size 3 (.int .i64 s.at') := (hO03.block _ hbfa.lt (by omega)).trans hbfa
        have hBX3 : Below w.heap.size w w3 := hBXa.trans (hO03.below (by omega) hBXa.size)
        have HKF3 : KeepsFrom ((w2.alloc (.cells #[.int .i64 r0.at'] 3)).alloc (.cells #[.pointer (some ⟨b, 0, none⟩)] 55)).heap.size W w3 := HKFa.trans ⟨hO03.size, fun k o hB hk _ => (hO03.block k (Array.getElem?_eq_some_iff.1 hk).1 (by simp at hB; omega)).trans hk⟩
        have HUV := Lib.hid (show u.like v from u.up_like.trans hvk)
        have HLT := Lib.hid hvl.2
        clear hcr hcrb x0 x1 x2 x3 x4 f3 f4 HSG hva hbra hbfa hoa hob hua hbrb hu0 hu1 hvl hvk ru
        obtain ⟨x0, x1, x2, x3, x4⟩ := ho3.at_.cells
        have hcr := hbr3.cell
        by_cases hve : v.e = 0
        · have hv0 : ((v.e : Int) != 0) = false := by rw [bne_eq_false_iff_eq]; omega
          have hv1 : ((v.e : Int) == 0) = true := by rw [beq_iff_eq]; omega
          by_cases hyx : y.toNat < x.toNat
          ·
            as_aux_lemma =>
              have hd : decide ((y.toNat : Int) < (x.toNat : Int)) = true := by simp; omega
              have hd2 : (y.toNat : Int) < (x.toNat : Int) := by omega
              rw [if_pos ⟨hve, hyx⟩] at hi2
              have HIT := Lib.hid hi2
              clear hi2
              gi_wp2_with fail
              have g0 := hbf3.cell
              refine wpIn_region_held_round (S := (fun w' => w'.cell? ⟨w1.heap.size, 0, none⟩ = some (.pointer (some ⟨b, 0, none⟩)) ∧ w'.cell? ⟨w2.heap.size, 0, none⟩ = some (.int .i64 s.at'))) (by kernel_rfl) (by kernel_rfl) ⟨hcr, g0⟩ (fun hHeld => ?_)
              refine wpAnyH_take (i := 0) (v := ?_) rfl (by kernel_rfl) (by kernel_rfl) (by kernel_rfl) (fun _ _ _ h => h) (Or.inl ⟨by kernel_rfl, ?_⟩) (by assumption) ?_
              rotate_left
              · (intro w hSw; (try dsimp only at hSw); go_simp; (try with_reducible rfl))
              try simp only [Act.put, List.getElem_toArray, List.getElem_cons_zero, List.getElem_cons_succ, List.setIfInBounds_toArray, List.set_cons_zero, List.set_cons_succ]
              refine wpAnyH_take (i := 1) (v := ?_) rfl (by kernel_rfl) (by kernel_rfl) (by kernel_rfl) (fun _ _ _ h => h) (Or.inl ⟨by kernel_rfl, ?_⟩) (by assumption) ?_
              rotate_left
              · (intro w hSw; (try dsimp only at hSw); go_simp; (try with_reducible rfl))
              try simp only [Act.put, List.getElem_toArray, List.getElem_cons_zero, List.getElem_cons_succ, List.setIfInBounds_toArray, List.set_cons_zero, List.set_cons_succ]
              refine wpAnyH_take (i := 2) (v := ?_) rfl (by kernel_rfl) (by kernel_rfl) (by kernel_rfl) (fun _ _ _ h => h) (Or.inl ⟨by kernel_rfl, ?_⟩) (by assumption) ?_
              rotate_left
              · (intro w hSw; (try dsimp only at hSw); go_simp; (try with_reducible rfl))
              try simp only [Act.put, List.getElem_toArray, List.getElem_cons_zero, List.getElem_cons_succ, List.setIfInBounds_toArray, List.set_cons_zero, List.set_cons_succ]
              refine wpAnyH_take (i := 3) (v := ?_) rfl (by kernel_rfl) (by kernel_rfl) (by kernel_rfl) (fun _ _ _ h => h) (Or.inl ⟨by kernel_rfl, ?_⟩) (by assumption) ?_
              rotate_left
              · (intro w hSw; (try dsimp only at hSw); go_simp; (try with_reducible rfl))
              try simp only [Act.put, List.getElem_toArray, List.getElem_cons_zero, List.getElem_cons_succ, List.setIfInBounds_toArray, List.set_cons_zero, List.set_cons_succ]
              refine wpAnyH_take (i := 4) (v := ?_) rfl (by kernel_rfl) (by kernel_rfl) (by kernel_rfl) (fun _ _ _ h => h) (Or.inl ⟨by kernel_rfl, ?_⟩) (by assumption) ?_
              rotate_left
              · (intro w hSw; (try dsimp only at hSw); go_simp; (try with_reducible rfl))
              try simp only [Act.put, List.getElem_toArray, List.getElem_cons_zero, List.getElem_cons_succ, List.setIfInBounds_toArray, List.set_cons_zero, List.set_cons_succ]
              obtain ⟨f3, f4⟩ := ho3.at_.free
              refine wpAnyH_ready (rs := [5]) (by kernel_rfl) (by simp) (AllReadyH.cons rfl (fun K hK => ?_) AllReadyH.nil)
              go_simp
              have hr9 := (ho3.at_.drew.setAt s.at').setE 4
              have hr8 := ho3.at_.drew.setAt s.at'
              have hO8 : Only b w3 (w3.drew.setCell ⟨b, 3, none⟩ (.int .i64 (s.at' : Nat))) := (Only.drawn b w3).setCell 3 _
              have hcr8 : (w3.drew.setCell ⟨b, 3, none⟩ (.int .i64 (s.at' : Nat))).cell? ⟨w1.heap.size, 0, none⟩ = some (.pointer (some ⟨b, 0, none⟩)) := Boxed.cell ((hO8.block _ hbr3.lt (by omega)).trans hbr3)
              have hbf8 : (w3.drew.setCell ⟨b, 3, none⟩ (.int .i64 (s.at' : Nat))).cell? ⟨w2.heap.size, 0, none⟩ = some (.int .i64 s.at') := Boxed.cell ((hO8.block _ hbf3.lt (by omega)).trans hbf3)
              clear hHeld
              refine hK.out _ _ ⟨hcr8, hbf8⟩ (fun hHeld => ?_)
              clear hK K
              try simp only [Act.put, List.getElem_toArray, List.getElem_cons_zero, List.getElem_cons_succ, List.setIfInBounds_toArray, List.set_cons_zero, List.set_cons_succ]
              refine wpAnyH_take (i := 6) (v := ?_) rfl (by kernel_rfl) (by kernel_rfl) (by kernel_rfl) (fun _ _ _ h => h) (Or.inl ⟨by kernel_rfl, ?_⟩) (by assumption) ?_
              rotate_left
              · (intro w hSw; (try dsimp only at hSw); go_simp; (try with_reducible rfl))
              try simp only [Act.put, List.getElem_toArray, List.getElem_cons_zero, List.getElem_cons_succ, List.setIfInBounds_toArray, List.set_cons_zero, List.set_cons_succ]
              refine wpAnyH_take (i := 7) (v := ?_) rfl (by kernel_rfl) (by kernel_rfl) (by kernel_rfl) (fun _ _ _ h => h) (Or.inl ⟨by kernel_rfl, ?_⟩) (by assumption) ?_
              rotate_left
              · (intro w hSw; (try dsimp only at hSw); go_simp; (try with_reducible rfl))
              try simp only [Act.put, List.getElem_toArray, List.getElem_cons_zero, List.getElem_cons_succ, List.setIfInBounds_toArray, List.set_cons_zero, List.set_cons_succ]
              obtain ⟨q0, q1, q2, q3, q4⟩ := hr8.cells
              obtain ⟨e3, e4⟩ := hr8.free
              refine wpAnyH_ready (rs := [8]) (by kernel_rfl) (by simp) (AllReadyH.cons rfl (fun K hK => ?_) AllReadyH.nil)
              go_simp
              have hO9 : Only b w3 (((w3.setCell ⟨b, 3, none⟩ (.int .i64 (s.at' : Nat))).setCell ⟨b, 4, none⟩ (.int .i64 (4 : Nat))).drew) := (((Only.of (Below.refl _ w3)).setCell 3 _).setCell 4 _).trans (Only.drawn b _)
              have hr9 : RdAt (((w3.setCell ⟨b, 3, none⟩ (.int .i64 (s.at' : Nat))).setCell ⟨b, 4, none⟩ (.int .i64 (4 : Nat))).drew) b { v with at' := s.at', e := 4 } := ((ho3.at_.setAt s.at').setE 4).drew
              have hB9 : Below w.heap.size w (((w3.setCell ⟨b, 3, none⟩ (.int .i64 (s.at' : Nat))).setCell ⟨b, 4, none⟩ (.int .i64 (4 : Nat))).drew) := hBX3.trans (hO9.below (by omega) hBX3.size)
              revert hO9 hr9 hB9
              rw [show ((4 : Nat) : Int) = 4 from rfl]
              generalize ((w3.setCell ⟨b, 3, none⟩ (.int .i64 (s.at' : Nat))).setCell ⟨b, 4, none⟩ (.int .i64 4)).drew = w9
              intro hO9 hr9 hB9
              have hv9 : Box4 w9 w.heap.size S := (hO9.block _ hv3.lt (by omega)).trans hv3
              have hbr9 : Boxed w9 w1.heap.size 55 (.pointer (some ⟨b, 0, none⟩)) := (hO9.block _ hbr3.lt (by omega)).trans hbr3
              have hbf9 : Boxed w9 w2.heap.size 3 (.int .i64 s.at') := (hO9.block _ hbf3.lt (by omega)).trans hbf3
              have HKF9 : KeepsFrom ((w2.alloc (.cells #[.int .i64 r0.at'] 3)).alloc (.cells #[.pointer (some ⟨b, 0, none⟩)] 55)).heap.size W w9 := HKF3.trans ⟨hO9.size, fun k o hB hk _ => (hO9.block k (Array.getElem?_eq_some_iff.1 hk).1 (by simp at hB; omega)).trans hk⟩
              clear hcr x0 x1 x2 x3 x4 q0 q1 q2 q3 q4 f3 f4 e3 e4 hcr8 hbf8 hv0 hv1
              obtain ⟨x0, x1, x2, x3, x4⟩ := hr9.cells
              have hcr := hbr9.cell
              clear hHeld
              refine hK.out _ _ ⟨hcr, hbf9.cell⟩ (fun hHeld => ?_)
              clear hK K
              try simp only [Act.put, List.getElem_toArray, List.getElem_cons_zero, List.getElem_cons_succ, List.setIfInBounds_toArray, List.set_cons_zero, List.set_cons_succ]
              refine wpAnyH_done (by kernel_rfl) ?_ _
              simp only [noOut]
              gi_wp2
              exact ⟨by first | exact HKF9 | simpa using HKF9, rfl, S, { v with at' := s.at', e := 4 }, ⟨show (4 : Nat) ≠ 0 by decide, ho3.text, HG.out.2.2.2.bad a1 a2 HIT.out (show (4 : Nat) ≠ 0 by decide) n (by have := HG.out.2.1; omega)⟩, hr9, hv9, hbr9, hB9⟩
          ·
            as_aux_lemma =>
              have hd : decide ((y.toNat : Int) < (x.toNat : Int)) = false := by simp; omega
              have hd2 : ¬ (y.toNat : Int) < (x.toNat : Int) := by omega
              rw [if_neg (fun h => hyx h.2)] at hi2
              have HIT := Lib.hid hi2
              have HUE := Lib.hid hve
              have hadv := HLT.out hve
              have hlt : s.at' < v.at' := by have : u.up.at' = u.at' + 1 := rfl; omega
              have HON := Lib.hid (show OnR u v from ⟨HUV.out, by have : u.up.at' = u.at' + 1 := rfl; omega⟩)
              clear hi2 hve hadv
              gi_wp2_with fail
              obtain ⟨R, hRe⟩ : ∃ R, R = rg x y := ⟨_, rfl⟩
              have HRG := Lib.hid (show ∀ w : World, Calls Tryd.prog 35 #[.int .u8 x.toNat, .int .u8 y.toNat] w fun e w' => e = .returned R.v ∧ Below w.heap.size w w' from fun w => by rw [hRe]; exact range_any x.toNat y.toNat (UInt8.toNat_lt _) (UInt8.toNat_lt _) w)
              have hRok : R.ok := by rw [hRe]; exact S4.ok_ofL _ S4.ok_nil
              obtain ⟨T, hTe⟩ : ∃ T, T = S.or R := ⟨_, rfl⟩
              have HOR := Lib.hid (show ∀ w : World, Calls Tryd.prog 34 #[S.v, R.v] w fun e w' => e = .returned T.v ∧ Below w.heap.size w w' from fun w => by rw [hTe]; exact or_any S R HG.out.2.2.1 hRok w)
              have HTok := Lib.hid (show T.ok by rw [hTe]; exact S4.ok_or HG.out.2.2.1 hRok)
              have HTe := Lib.hid (show T = S.or (rg x y) by rw [hTe, hRe])
              clear hRe hRok hTe
              refine wpIn_region_held_round (S := (fun w' => w'.cell? ⟨w1.heap.size, 0, none⟩ = some (.pointer (some ⟨b, 0, none⟩)) ∧ w'.cell? ⟨b, 0, none⟩ = some (.string v.text) ∧ w'.cell? ⟨b, 1, none⟩ = some (.string v.bare) ∧ w'.cell? ⟨b, 2, none⟩ = some v.mp ∧ w'.cell? ⟨b, 3, none⟩ = some (.int .i64 v.at') ∧ w'.cell? ⟨b, 4, none⟩ = some (.int .i64 v.e))) (by kernel_rfl) (by kernel_rfl) ⟨hcr, x0, x1, x2, x3, x4⟩ (fun hHeld => ?_)
              refine wpAnyH_take (i := 1) (v := ?_) rfl (by kernel_rfl) (by kernel_rfl) (by kernel_rfl) (fun _ _ _ h => h) (Or.inl ⟨by kernel_rfl, ?_⟩) (by assumption) ?_
              rotate_left
              · (intro w hSw; (try dsimp only at hSw); go_simp; (try with_reducible rfl))
              try simp only [Act.put, List.getElem_toArray, List.getElem_cons_zero, List.getElem_cons_succ, List.setIfInBounds_toArray, List.set_cons_zero, List.set_cons_succ]
              refine wpAnyH_take (i := 2) (v := ?_) rfl (by kernel_rfl) (by kernel_rfl) (by kernel_rfl) (fun _ _ _ h => h) (Or.inl ⟨by kernel_rfl, ?_⟩) (by assumption) ?_
              rotate_left
              · (intro w hSw; (try dsimp only at hSw); go_simp; (try with_reducible rfl))
              try simp only [Act.put, List.getElem_toArray, List.getElem_cons_zero, List.getElem_cons_succ, List.setIfInBounds_toArray, List.set_cons_zero, List.set_cons_succ]
              refine wpAnyH_take (i := 5) (v := ?_) rfl (by kernel_rfl) (by kernel_rfl) (by kernel_rfl) (fun _ _ _ h => h) (Or.inl ⟨by kernel_rfl, ?_⟩) (by assumption) ?_
              rotate_left
              · (intro w hSw; (try dsimp only at hSw); go_simp; (try with_reducible rfl))
              try simp only [Act.put, List.getElem_toArray, List.getElem_cons_zero, List.getElem_cons_succ, List.setIfInBounds_toArray, List.set_cons_zero, List.set_cons_succ]
              refine wpAnyH_take (i := 6) (v := ?_) rfl (by kernel_rfl) (by kernel_rfl) (by kernel_rfl) (fun _ _ _ h => h) (Or.inl ⟨by kernel_rfl, ?_⟩) (by assumption) ?_
              rotate_left
              · (intro w hSw; (try dsimp only at hSw); go_simp; (try with_reducible rfl))
              try simp only [Act.put, List.getElem_toArray, List.getElem_cons_zero, List.getElem_cons_succ, List.setIfInBounds_toArray, List.set_cons_zero, List.set_cons_succ]
              refine wpAnyH_take (i := 7) (v := ?_) rfl (by kernel_rfl) (by kernel_rfl) (by kernel_rfl) (fun _ _ _ h => h) (Or.inl ⟨by kernel_rfl, ?_⟩) (by assumption) ?_
              rotate_left
              · (intro w hSw; (try dsimp only at hSw); go_simp; (try with_reducible rfl))
              try simp only [Act.put, List.getElem_toArray, List.getElem_cons_zero, List.getElem_cons_succ, List.setIfInBounds_toArray, List.set_cons_zero, List.set_cons_succ]
              refine wpAnyH_take (i := 8) (v := ?_) rfl (by kernel_rfl) (by kernel_rfl) (by kernel_rfl) (fun _ _ _ h => h) (Or.inl ⟨by kernel_rfl, ?_⟩) (by assumption) ?_
              rotate_left
              · (intro w hSw; (try dsimp only at hSw); go_simp; (try with_reducible rfl))
              try simp only [Act.put, List.getElem_toArray, List.getElem_cons_zero, List.getElem_cons_succ, List.setIfInBounds_toArray, List.set_cons_zero, List.set_cons_succ]
              refine wpAnyH_ready (rs := [0, 3]) (by kernel_rfl) (by simp) (AllReadyH.cons rfl (fun K hK => ?_) (AllReadyH.cons rfl (fun K hK => ?_) AllReadyH.nil))
              · obtain ⟨c0, c1, c2, c3⟩ := hv3.cells
                go_simp
                clear hHeld
                refine hK.out _ _ ⟨hcr, x0, x1, x2, x3, x4⟩ (fun hHeld => ?_)
                clear hK K
                try simp only [Act.put, List.getElem_toArray, List.getElem_cons_zero, List.getElem_cons_succ, List.setIfInBounds_toArray, List.set_cons_zero, List.set_cons_succ]
                clear c0 c1 c2 c3
                refine wpAnyH_ready (rs := [3]) (by kernel_rfl) (by simp) (AllReadyH.cons rfl (fun K hK => ?_) AllReadyH.nil)
                go_simp
                go_at_call 35
                refine (HRG.out _).mono ?_
                rintro e w4 ⟨rfl, hb4⟩
                replace hb4 : Below w3.heap.size w3 w4 := (Below.refl _ w3).drew.trans hb4
                have ho4 := ho3.after (Only.of hb4) (ho3.at_.below hb4 ho3.at_.lt) (Rd.like.refl _) ho3.le hne (by omega) (by omega)
                have hv4 : Box4 w4 w.heap.size S := hv3.below hb4 hv3.lt
                have hbr4 : Boxed w4 w1.heap.size 55 (.pointer (some ⟨b, 0, none⟩)) := (hb4.block _ hbr3.lt).trans hbr3
                have hbf4 : Boxed w4 w2.heap.size 3 (.int .i64 s.at') := (hb4.block _ hbf3.lt).trans hbf3
                have hBX4 := bstep hBX3 hb4
                have HKF4 : KeepsFrom ((w2.alloc (.cells #[.int .i64 r0.at'] 3)).alloc (.cells #[.pointer (some ⟨b, 0, none⟩)] 55)).heap.size W w4 := HKF3.trans ⟨hb4.size, fun k o _ hk _ => (hb4.block k (Array.getElem?_eq_some_iff.1 hk).1).trans hk⟩
                clear hcr x0 x1 x2 x3 x4
                obtain ⟨x0, x1, x2, x3, x4⟩ := ho4.at_.cells
                have hcr := hbr4.cell
                clear hHeld
                refine hK.out _ _ ⟨hcr, x0, x1, x2, x3, x4⟩ (fun hHeld => ?_)
                clear hK K
                try simp only [Act.put, List.getElem_toArray, List.getElem_cons_zero, List.getElem_cons_succ, List.setIfInBounds_toArray, List.set_cons_zero, List.set_cons_succ]
                refine wpAnyH_ready (rs := [4]) (by kernel_rfl) (by simp) (AllReadyH.cons rfl (fun K hK => ?_) AllReadyH.nil)
                go_simp
                go_at_call 34
                refine (HOR.out _).mono ?_
                rintro e w5 ⟨rfl, hb5⟩
                have ho5 := ho4.after (Only.of hb5) (ho4.at_.below hb5 ho4.at_.lt) (Rd.like.refl _) ho4.le hne (by omega) (by omega)
                have hv5 : Box4 w5 w.heap.size S := hv4.below hb5 hv4.lt
                have hbr5 : Boxed w5 w1.heap.size 55 (.pointer (some ⟨b, 0, none⟩)) := (hb5.block _ hbr4.lt).trans hbr4
                have hbf5 : Boxed w5 w2.heap.size 3 (.int .i64 s.at') := (hb5.block _ hbf4.lt).trans hbf4
                have hBX5 := bstep hBX4 hb5
                have HKF5 : KeepsFrom ((w2.alloc (.cells #[.int .i64 r0.at'] 3)).alloc (.cells #[.pointer (some ⟨b, 0, none⟩)] 55)).heap.size W w5 := HKF4.trans ⟨hb5.size, fun k o _ hk _ => (hb5.block k (Array.getElem?_eq_some_iff.1 hk).1).trans hk⟩
                clear hcr x0 x1 x2 x3 x4
                obtain ⟨x0, x1, x2, x3, x4⟩ := ho5.at_.cells
                have hcr := hbr5.cell
                clear hHeld
                refine hK.out _ _ ⟨hcr, x0, x1, x2, x3, x4⟩ (fun hHeld => ?_)
                clear hK K
                try simp only [Act.put, List.getElem_toArray, List.getElem_cons_zero, List.getElem_cons_succ, List.setIfInBounds_toArray, List.set_cons_zero, List.set_cons_succ]
                obtain ⟨f0, f1, f2, f3⟩ := hv5.free
                obtain ⟨d0, d1, d2, d3⟩ := hv5.cells
                refine wpAnyH_ready (rs := [9]) (by kernel_rfl) (by simp) (AllReadyH.cons rfl (fun K hK => ?_) AllReadyH.nil)
                go_simp
                have hv6 := hv5.store T
                have kp6 : ∀ k, k ≠ w.heap.size → ((((w5.setCell ⟨w.heap.size, 0, none⟩ (.int .u64 T.a)).setCell ⟨w.heap.size, 1, none⟩ (.int .u64 T.b)).setCell ⟨w.heap.size, 2, none⟩ (.int .u64 T.c)).setCell ⟨w.heap.size, 3, none⟩ (.int .u64 T.d)).heap[k]? = w5.heap[k]? := fun k hk => (Below.heap_setCell _ _ _ _ hk).trans ((Below.heap_setCell _ _ _ _ hk).trans ((Below.heap_setCell _ _ _ _ hk).trans (Below.heap_setCell _ _ _ _ hk)))
                have hBX6 : Below w.heap.size w ((((w5.setCell ⟨w.heap.size, 0, none⟩ (.int .u64 T.a)).setCell ⟨w.heap.size, 1, none⟩ (.int .u64 T.b)).setCell ⟨w.heap.size, 2, none⟩ (.int .u64 T.c)).setCell ⟨w.heap.size, 3, none⟩ (.int .u64 T.d)) := (((hBX5.setCell (Nat.le_refl _) _).setCell (Nat.le_refl _) _).setCell (Nat.le_refl _) _).setCell (Nat.le_refl _) _
                have hsz6 : ((((w5.setCell ⟨w.heap.size, 0, none⟩ (.int .u64 T.a)).setCell ⟨w.heap.size, 1, none⟩ (.int .u64 T.b)).setCell ⟨w.heap.size, 2, none⟩ (.int .u64 T.c)).setCell ⟨w.heap.size, 3, none⟩ (.int .u64 T.d)).heap.size = w5.heap.size := by simp
                have hOB := Lib.hid (show Below W0.heap.size W0 w from hb0)
                revert hv6 kp6 hBX6 hsz6
                generalize ((((w5.setCell ⟨w.heap.size, 0, none⟩ (.int .u64 T.a)).setCell ⟨w.heap.size, 1, none⟩ (.int .u64 T.b)).setCell ⟨w.heap.size, 2, none⟩ (.int .u64 T.c)).setCell ⟨w.heap.size, 3, none⟩ (.int .u64 T.d)) = w6
                intro hv6 kp6 hBX6 hsz6
                have ho6 : OwnR W0 true t b mb (w2.heap.size + 1) v w6 := ⟨(kp6 b (by omega)).trans ho5.at_, ho5.text, ho5.size, ho5.bare, ho5.mp, ho5.le, (kp6 mb (by omega)).trans ho5.map, (kp6 _ (by omega)).trans ho5.box, hOB.out.trans (hBX6.mono hOB.out.size)⟩
                have hbr6 : Boxed w6 w1.heap.size 55 (.pointer (some ⟨b, 0, none⟩)) := (kp6 _ (by omega)).trans hbr5
                have hbf6 : Boxed w6 w2.heap.size 3 (.int .i64 s.at') := (kp6 _ (by omega)).trans hbf5
                have HKF6 : KeepsFrom ((w2.alloc (.cells #[.int .i64 r0.at'] 3)).alloc (.cells #[.pointer (some ⟨b, 0, none⟩)] 55)).heap.size W w6 := HKF5.trans ⟨Nat.le_of_eq hsz6.symm, fun k o hB hk _ => (kp6 k (by simp at hB; omega)).trans hk⟩
                clear hcr x0 x1 x2 x3 x4 f0 f1 f2 f3 d0 d1 d2 d3
                obtain ⟨x0, x1, x2, x3, x4⟩ := ho6.at_.cells
                have hcr := hbr6.cell
                clear hHeld
                refine hK.out _ _ ⟨hcr, x0, x1, x2, x3, x4⟩ (fun hHeld => ?_)
                clear hK K
                try simp only [Act.put, List.getElem_toArray, List.getElem_cons_zero, List.getElem_cons_succ, List.setIfInBounds_toArray, List.set_cons_zero, List.set_cons_succ]
                have g0 := hbf6.cell
                have g1 := hbf6.frozen
                refine wpAnyH_ready (rs := [10]) (by kernel_rfl) (by simp) (AllReadyH.cons rfl (fun K hK => ?_) AllReadyH.nil)
                go_simp
                have hbf7 := hbf6.set (.int .i64 v.at')
                have kp7 : ∀ k, k ≠ w2.heap.size → (w6.setCell ⟨w2.heap.size, 0, none⟩ (.int .i64 v.at')).heap[k]? = w6.heap[k]? := fun k hk => Below.heap_setCell _ _ _ _ hk
                have hBX7 : Below w.heap.size w (w6.setCell ⟨w2.heap.size, 0, none⟩ (.int .i64 v.at')) := hBX6.setCell (by show w.heap.size ≤ w2.heap.size; omega) _
                have hsz7 : (w6.setCell ⟨w2.heap.size, 0, none⟩ (.int .i64 v.at')).heap.size = w6.heap.size := by simp
                revert hbf7 kp7 hBX7 hsz7
                generalize w6.setCell ⟨w2.heap.size, 0, none⟩ (.int .i64 v.at') = w7
                intro hbf7 kp7 hBX7 hsz7
                have ho7 : OwnR W0 true t b mb (w2.heap.size + 1) v w7 := ⟨(kp7 b (by omega)).trans ho6.at_, ho6.text, ho6.size, ho6.bare, ho6.mp, ho6.le, (kp7 mb (by omega)).trans ho6.map, (kp7 _ (by omega)).trans ho6.box, hOB.out.trans (hBX7.mono hOB.out.size)⟩
                have hbr7 : Boxed w7 w1.heap.size 55 (.pointer (some ⟨b, 0, none⟩)) := (kp7 _ (by omega)).trans hbr6
                have hv7 : Box4 w7 w.heap.size T := (kp7 _ (by omega)).trans hv6
                have HKF7 : KeepsFrom ((w2.alloc (.cells #[.int .i64 r0.at'] 3)).alloc (.cells #[.pointer (some ⟨b, 0, none⟩)] 55)).heap.size W w7 := HKF6.trans ⟨Nat.le_of_eq hsz7.symm, fun k o hB hk _ => (kp7 k (by simp at hB; omega)).trans hk⟩
                clear hcr x0 x1 x2 x3 x4 g0 g1
                obtain ⟨x0, x1, x2, x3, x4⟩ := ho7.at_.cells
                have hcr := hbr7.cell
                clear hHeld
                refine hK.out _ _ ⟨hcr, x0, x1, x2, x3, x4⟩ (fun hHeld => ?_)
                clear hK K
                try simp only [Act.put, List.getElem_toArray, List.getElem_cons_zero, List.getElem_cons_succ, List.setIfInBounds_toArray, List.set_cons_zero, List.set_cons_succ]
                refine wpAnyH_done (by kernel_rfl) ?_ _
                simp only [noOut]
                gi_wp2
                exact ⟨HKF7, v, HON.out, ho7, T, ⟨ho7.text, ho7.le, HTok.out, by rw [HTe.out]; exact HG.out.2.2.2.step a1 a2 HIT.out HUE.out hlt⟩, hv7, hbr7, hbf7, hBX7⟩
              · go_simp
                go_at_call 35
                refine (HRG.out _).mono ?_
                rintro e w4 ⟨rfl, hb4⟩
                replace hb4 : Below w3.heap.size w3 w4 := (Below.refl _ w3).drew.trans hb4
                have ho4 := ho3.after (Only.of hb4) (ho3.at_.below hb4 ho3.at_.lt) (Rd.like.refl _) ho3.le hne (by omega) (by omega)
                have hv4 : Box4 w4 w.heap.size S := hv3.below hb4 hv3.lt
                have hbr4 : Boxed w4 w1.heap.size 55 (.pointer (some ⟨b, 0, none⟩)) := (hb4.block _ hbr3.lt).trans hbr3
                have hbf4 : Boxed w4 w2.heap.size 3 (.int .i64 s.at') := (hb4.block _ hbf3.lt).trans hbf3
                have hBX4 := bstep hBX3 hb4
                have HKF4 : KeepsFrom ((w2.alloc (.cells #[.int .i64 r0.at'] 3)).alloc (.cells #[.pointer (some ⟨b, 0, none⟩)] 55)).heap.size W w4 := HKF3.trans ⟨hb4.size, fun k o _ hk _ => (hb4.block k (Array.getElem?_eq_some_iff.1 hk).1).trans hk⟩
                clear hcr x0 x1 x2 x3 x4
                obtain ⟨x0, x1, x2, x3, x4⟩ := ho4.at_.cells
                have hcr := hbr4.cell
                clear hHeld
                refine hK.out _ _ ⟨hcr, x0, x1, x2, x3, x4⟩ (fun hHeld => ?_)
                clear hK K
                try simp only [Act.put, List.getElem_toArray, List.getElem_cons_zero, List.getElem_cons_succ, List.setIfInBounds_toArray, List.set_cons_zero, List.set_cons_succ]
                obtain ⟨c0, c1, c2, c3⟩ := hv4.cells
                refine wpAnyH_ready (rs := [0]) (by kernel_rfl) (by simp) (AllReadyH.cons rfl (fun K hK => ?_) AllReadyH.nil)
                go_simp
                clear hHeld
                refine hK.out _ _ ⟨hcr, x0, x1, x2, x3, x4⟩ (fun hHeld => ?_)
                clear hK K
                try simp only [Act.put, List.getElem_toArray, List.getElem_cons_zero, List.getElem_cons_succ, List.setIfInBounds_toArray, List.set_cons_zero, List.set_cons_succ]
                clear c0 c1 c2 c3
                refine wpAnyH_ready (rs := [4]) (by kernel_rfl) (by simp) (AllReadyH.cons rfl (fun K hK => ?_) AllReadyH.nil)
                go_simp
                go_at_call 34
                refine (HOR.out _).mono ?_
                rintro e w5 ⟨rfl, hb5⟩
                have ho5 := ho4.after (Only.of hb5) (ho4.at_.below hb5 ho4.at_.lt) (Rd.like.refl _) ho4.le hne (by omega) (by omega)
                have hv5 : Box4 w5 w.heap.size S := hv4.below hb5 hv4.lt
                have hbr5 : Boxed w5 w1.heap.size 55 (.pointer (some ⟨b, 0, none⟩)) := (hb5.block _ hbr4.lt).trans hbr4
                have hbf5 : Boxed w5 w2.heap.size 3 (.int .i64 s.at') := (hb5.block _ hbf4.lt).trans hbf4
                have hBX5 := bstep hBX4 hb5
                have HKF5 : KeepsFrom ((w2.alloc (.cells #[.int .i64 r0.at'] 3)).alloc (.cells #[.pointer (some ⟨b, 0, none⟩)] 55)).heap.size W w5 := HKF4.trans ⟨hb5.size, fun k o _ hk _ => (hb5.block k (Array.getElem?_eq_some_iff.1 hk).1).trans hk⟩
                clear hcr x0 x1 x2 x3 x4
                obtain ⟨x0, x1, x2, x3, x4⟩ := ho5.at_.cells
                have hcr := hbr5.cell
                clear hHeld
                refine hK.out _ _ ⟨hcr, x0, x1, x2, x3, x4⟩ (fun hHeld => ?_)
                clear hK K
                try simp only [Act.put, List.getElem_toArray, List.getElem_cons_zero, List.getElem_cons_succ, List.setIfInBounds_toArray, List.set_cons_zero, List.set_cons_succ]
                obtain ⟨f0, f1, f2, f3⟩ := hv5.free
                obtain ⟨d0, d1, d2, d3⟩ := hv5.cells
                refine wpAnyH_ready (rs := [9]) (by kernel_rfl) (by simp) (AllReadyH.cons rfl (fun K hK => ?_) AllReadyH.nil)
                go_simp
                have hv6 := hv5.store T
                have kp6 : ∀ k, k ≠ w.heap.size → ((((w5.setCell ⟨w.heap.size, 0, none⟩ (.int .u64 T.a)).setCell ⟨w.heap.size, 1, none⟩ (.int .u64 T.b)).setCell ⟨w.heap.size, 2, none⟩ (.int .u64 T.c)).setCell ⟨w.heap.size, 3, none⟩ (.int .u64 T.d)).heap[k]? = w5.heap[k]? := fun k hk => (Below.heap_setCell _ _ _ _ hk).trans ((Below.heap_setCell _ _ _ _ hk).trans ((Below.heap_setCell _ _ _ _ hk).trans (Below.heap_setCell _ _ _ _ hk)))
                have hBX6 : Below w.heap.size w ((((w5.setCell ⟨w.heap.size, 0, none⟩ (.int .u64 T.a)).setCell ⟨w.heap.size, 1, none⟩ (.int .u64 T.b)).setCell ⟨w.heap.size, 2, none⟩ (.int .u64 T.c)).setCell ⟨w.heap.size, 3, none⟩ (.int .u64 T.d)) := (((hBX5.setCell (Nat.le_refl _) _).setCell (Nat.le_refl _) _).setCell (Nat.le_refl _) _).setCell (Nat.le_refl _) _
                have hsz6 : ((((w5.setCell ⟨w.heap.size, 0, none⟩ (.int .u64 T.a)).setCell ⟨w.heap.size, 1, none⟩ (.int .u64 T.b)).setCell ⟨w.heap.size, 2, none⟩ (.int .u64 T.c)).setCell ⟨w.heap.size, 3, none⟩ (.int .u64 T.d)).heap.size = w5.heap.size := by simp
                have hOB := Lib.hid (show Below W0.heap.size W0 w from hb0)
                revert hv6 kp6 hBX6 hsz6
                generalize ((((w5.setCell ⟨w.heap.size, 0, none⟩ (.int .u64 T.a)).setCell ⟨w.heap.size, 1, none⟩ (.int .u64 T.b)).setCell ⟨w.heap.size, 2, none⟩ (.int .u64 T.c)).setCell ⟨w.heap.size, 3, none⟩ (.int .u64 T.d)) = w6
                intro hv6 kp6 hBX6 hsz6
                have ho6 : OwnR W0 true t b mb (w2.heap.size + 1) v w6 := ⟨(kp6 b (by omega)).trans ho5.at_, ho5.text, ho5.size, ho5.bare, ho5.mp, ho5.le, (kp6 mb (by omega)).trans ho5.map, (kp6 _ (by omega)).trans ho5.box, hOB.out.trans (hBX6.mono hOB.out.size)⟩
                have hbr6 : Boxed w6 w1.heap.size 55 (.pointer (some ⟨b, 0, none⟩)) := (kp6 _ (by omega)).trans hbr5
                have hbf6 : Boxed w6 w2.heap.size 3 (.int .i64 s.at') := (kp6 _ (by omega)).trans hbf5
                have HKF6 : KeepsFrom ((w2.alloc (.cells #[.int .i64 r0.at'] 3)).alloc (.cells #[.pointer (some ⟨b, 0, none⟩)] 55)).heap.size W w6 := HKF5.trans ⟨Nat.le_of_eq hsz6.symm, fun k o hB hk _ => (kp6 k (by simp at hB; omega)).trans hk⟩
                clear hcr x0 x1 x2 x3 x4 f0 f1 f2 f3 d0 d1 d2 d3
                obtain ⟨x0, x1, x2, x3, x4⟩ := ho6.at_.cells
                have hcr := hbr6.cell
                clear hHeld
                refine hK.out _ _ ⟨hcr, x0, x1, x2, x3, x4⟩ (fun hHeld => ?_)
                clear hK K
                try simp only [Act.put, List.getElem_toArray, List.getElem_cons_zero, List.getElem_cons_succ, List.setIfInBounds_toArray, List.set_cons_zero, List.set_cons_succ]
                have g0 := hbf6.cell
                have g1 := hbf6.frozen
                refine wpAnyH_ready (rs := [10]) (by kernel_rfl) (by simp) (AllReadyH.cons rfl (fun K hK => ?_) AllReadyH.nil)
                go_simp
                have hbf7 := hbf6.set (.int .i64 v.at')
                have kp7 : ∀ k, k ≠ w2.heap.size → (w6.setCell ⟨w2.heap.size, 0, none⟩ (.int .i64 v.at')).heap[k]? = w6.heap[k]? := fun k hk => Below.heap_setCell _ _ _ _ hk
                have hBX7 : Below w.heap.size w (w6.setCell ⟨w2.heap.size, 0, none⟩ (.int .i64 v.at')) := hBX6.setCell (by show w.heap.size ≤ w2.heap.size; omega) _
                have hsz7 : (w6.setCell ⟨w2.heap.size, 0, none⟩ (.int .i64 v.at')).heap.size = w6.heap.size := by simp
                revert hbf7 kp7 hBX7 hsz7
                generalize w6.setCell ⟨w2.heap.size, 0, none⟩ (.int .i64 v.at') = w7
                intro hbf7 kp7 hBX7 hsz7
                have ho7 : OwnR W0 true t b mb (w2.heap.size + 1) v w7 := ⟨(kp7 b (by omega)).trans ho6.at_, ho6.text, ho6.size, ho6.bare, ho6.mp, ho6.le, (kp7 mb (by omega)).trans ho6.map, (kp7 _ (by omega)).trans ho6.box, hOB.out.trans (hBX7.mono hOB.out.size)⟩
                have hbr7 : Boxed w7 w1.heap.size 55 (.pointer (some ⟨b, 0, none⟩)) := (kp7 _ (by omega)).trans hbr6
                have hv7 : Box4 w7 w.heap.size T := (kp7 _ (by omega)).trans hv6
                have HKF7 : KeepsFrom ((w2.alloc (.cells #[.int .i64 r0.at'] 3)).alloc (.cells #[.pointer (some ⟨b, 0, none⟩)] 55)).heap.size W w7 := HKF6.trans ⟨Nat.le_of_eq hsz7.symm, fun k o hB hk _ => (kp7 k (by simp at hB; omega)).trans hk⟩
                clear hcr x0 x1 x2 x3 x4 g0 g1
                obtain ⟨x0, x1, x2, x3, x4⟩ := ho7.at_.cells
                have hcr := hbr7.cell
                clear hHeld
                refine hK.out _ _ ⟨hcr, x0, x1, x2, x3, x4⟩ (fun hHeld => ?_)
                clear hK K
                try simp only [Act.put, List.getElem_toArray, List.getElem_cons_zero, List.getElem_cons_succ, List.setIfInBounds_toArray, List.set_cons_zero, List.set_cons_succ]
                refine wpAnyH_done (by kernel_rfl) ?_ _
                simp only [noOut]
                gi_wp2
                exact ⟨HKF7, v, HON.out, ho7, T, ⟨ho7.text, ho7.le, HTok.out, by rw [HTe.out]; exact HG.out.2.2.2.step a1 a2 HIT.out HUE.out hlt⟩, hv7, hbr7, hbf7, hBX7⟩
        · have hv0 : ((v.e : Int) != 0) = true := by rw [bne_iff_ne]; omega
          have hv1 : ((v.e : Int) == 0) = false := by rw [beq_eq_false_iff_ne]; omega
          rw [if_neg (fun h => hve h.1)] at hi2
          have HIT := Lib.hid hi2
          clear hi2
          gi_wp2
          exact ⟨HKF3, rfl, S, v, ⟨hve, ho3.text, HG.out.2.2.2.bad a1 a2 HIT.out hve n (by have := HG.out.2.1; omega)⟩, ho3.at_, hv3, hbr3, hBX3⟩
  case done =>
    rintro D s g W hD hf ho ⟨S, hg, hv, hbr, hbf, hBX⟩ hK
    have hU := HU.out S g (hg.2.2.2.fin hf n (by have := hg.2.1; omega))
    have hgr := ho.at_
    have hgt := ho.text
    clear ho hbf hg hf
    have hcr := hbr.cell
    have HX := Lib.hid (show Calls Tryd.prog 28 #[.pointer (some ⟨b, 0, none⟩), .int .u8 93] W fun e w' => (∃ v, e = .returned v) ∧ RdAt w' b (g.expect 93) ∧ Only b W w' from expect_any W b g hgr (by rw [hgt]; omega) 93)
    obtain ⟨g', hg'⟩ : ∃ g', g' = g.expect 93 := ⟨_, rfl⟩
    rw [← hg'] at hU HX
    clear hg'
    gi_wp2_with fail
    refine ⟨trivial, (callsIn_wide.2 HX.out).mono ?_⟩
    rintro e w3 ⟨⟨vv, rfl⟩, h3, hO3⟩
    have hv3 : Box4 w3 w.heap.size S := (hO3.block _ hv.lt (by omega)).trans hv
    have hbr3 : Boxed w3 w1.heap.size 55 (.pointer (some ⟨b, 0, none⟩)) := (hO3.block _ hbr.lt (by omega)).trans hbr
    have hnl : D ≠ b := by simp at hD; omega
    have hK3 : w3.heap[D]? = some (.deferred (some [])) := (hO3.block D (Array.getElem?_eq_some_iff.1 hK).1 hnl).trans hK
    have hB3 : Below w.heap.size w w3 := hBX.trans (hO3.below (by omega) hBX.size)
    clear hcr HX hv hbr hK
    obtain ⟨x0, x1, x2, x3, x4⟩ := h3.cells
    have hcr := hbr3.cell
    obtain ⟨c0, c1, c2, c3⟩ := hv3.cells
    obtain ⟨f0, f1, f2, f3⟩ := hv3.free
    by_cases hge : g'.e = 0
    ·
      as_aux_lemma =>
        have he3 : ((g'.e : Int) != 0) = false := by rw [bne_eq_false_iff_eq]; omega
        rw [if_neg (by simpa using hge)] at hU
        have HU2 := Lib.hid hU
        clear hU hge
        gi_wp2_with fail
        gi_region
        all_goals
          gi_wp2
          have hDs : D ≠ w.heap.size := by simp at hD; omega
          have hK9 : (((((w3.setCell ⟨w.heap.size, 0, none⟩ (.int .u64 S.a)).setCell ⟨w.heap.size, 1, none⟩ (.int .u64 S.b)).setCell ⟨w.heap.size, 2, none⟩ (.int .u64 S.c)).setCell ⟨w.heap.size, 3, none⟩ (.int .u64 S.d)).drew).heap[D]? = some (.deferred (some [])) := ((Below.heap_setCell _ _ _ _ hDs).trans ((Below.heap_setCell _ _ _ _ hDs).trans ((Below.heap_setCell _ _ _ _ hDs).trans (Below.heap_setCell _ _ _ _ hDs)))).trans hK3
          have hv9 : Box4 (((((w3.setCell ⟨w.heap.size, 0, none⟩ (.int .u64 S.a)).setCell ⟨w.heap.size, 1, none⟩ (.int .u64 S.b)).setCell ⟨w.heap.size, 2, none⟩ (.int .u64 S.c)).setCell ⟨w.heap.size, 3, none⟩ (.int .u64 S.d)).drew) w.heap.size S := (hv3.store S).drew
          have hB9 : Below w.heap.size w (((((w3.setCell ⟨w.heap.size, 0, none⟩ (.int .u64 S.a)).setCell ⟨w.heap.size, 1, none⟩ (.int .u64 S.b)).setCell ⟨w.heap.size, 2, none⟩ (.int .u64 S.c)).setCell ⟨w.heap.size, 3, none⟩ (.int .u64 S.d)).drew) := ((((hB3.setCell (Nat.le_refl _) _).setCell (Nat.le_refl _) _).setCell (Nat.le_refl _) _).setCell (Nat.le_refl _) _).drew
          refine ⟨by simp, .inl ⟨_, _, rfl, run_takeDeferred hK9, ?_⟩⟩
          revert hK9 hv9 hB9
          generalize ((((w3.setCell ⟨w.heap.size, 0, none⟩ (.int .u64 S.a)).setCell ⟨w.heap.size, 1, none⟩ (.int .u64 S.b)).setCell ⟨w.heap.size, 2, none⟩ (.int .u64 S.c)).setCell ⟨w.heap.size, 3, none⟩ (.int .u64 S.d)).drew = w9
          intro hK9 hv9 hB9
          have hv10 : Box4 (w9.putObj D (.deferred none)) w.heap.size S := (World.putObj_heap_other (by omega)).trans hv9
          obtain ⟨d0, d1, d2, d3⟩ := hv10.cells
          exact ⟨unclV (S, g'.at', 0), by simp [results, Tryd.results14, unclV, S4.nil, go_sem, d0, d1, d2, d3], ⟨mb, by rw [HU2.out]⟩, hB9.trans (belowK_b (w := w) (Nat.le_refl _) w9 D _ _ (by simp at hD; omega) hK9 rfl rfl)⟩
    ·
      as_aux_lemma =>
        have he3 : ((g'.e : Int) != 0) = true := by rw [bne_iff_ne]; omega
        rw [if_pos hge] at hU
        have HU2 := Lib.hid hU
        clear hU hge
        gi_wp2_with fail
        gi_region
        all_goals
          gi_wp2
          have hDs : D ≠ w.heap.size := by simp at hD; omega
          have hK9 : (((((w3.setCell ⟨w.heap.size, 0, none⟩ (.int .u64 0)).setCell ⟨w.heap.size, 1, none⟩ (.int .u64 0)).setCell ⟨w.heap.size, 2, none⟩ (.int .u64 0)).setCell ⟨w.heap.size, 3, none⟩ (.int .u64 0)).drew).heap[D]? = some (.deferred (some [])) := ((Below.heap_setCell _ _ _ _ hDs).trans ((Below.heap_setCell _ _ _ _ hDs).trans ((Below.heap_setCell _ _ _ _ hDs).trans (Below.heap_setCell _ _ _ _ hDs)))).trans hK3
          have hv9 : Box4 (((((w3.setCell ⟨w.heap.size, 0, none⟩ (.int .u64 0)).setCell ⟨w.heap.size, 1, none⟩ (.int .u64 0)).setCell ⟨w.heap.size, 2, none⟩ (.int .u64 0)).setCell ⟨w.heap.size, 3, none⟩ (.int .u64 0)).drew) w.heap.size S4.nil := (hv3.store S4.nil).drew
          have hB9 : Below w.heap.size w (((((w3.setCell ⟨w.heap.size, 0, none⟩ (.int .u64 0)).setCell ⟨w.heap.size, 1, none⟩ (.int .u64 0)).setCell ⟨w.heap.size, 2, none⟩ (.int .u64 0)).setCell ⟨w.heap.size, 3, none⟩ (.int .u64 0)).drew) := ((((hB3.setCell (Nat.le_refl _) _).setCell (Nat.le_refl _) _).setCell (Nat.le_refl _) _).setCell (Nat.le_refl _) _).drew
          refine ⟨by simp, .inl ⟨_, _, rfl, run_takeDeferred hK9, ?_⟩⟩
          revert hK9 hv9 hB9
          generalize ((((w3.setCell ⟨w.heap.size, 0, none⟩ (.int .u64 0)).setCell ⟨w.heap.size, 1, none⟩ (.int .u64 0)).setCell ⟨w.heap.size, 2, none⟩ (.int .u64 0)).setCell ⟨w.heap.size, 3, none⟩ (.int .u64 0)).drew = w9
          intro hK9 hv9 hB9
          have hv10 : Box4 (w9.putObj D (.deferred none)) w.heap.size S4.nil := (World.putObj_heap_other (by omega)).trans hv9
          obtain ⟨d0, d1, d2, d3⟩ := hv10.cells
          exact ⟨unclV (S4.nil, g'.at', g'.e), by simp [results, Tryd.results14, unclV, S4.nil, go_sem, d0, d1, d2, d3], ⟨mb, by rw [HU2.out]⟩, hB9.trans (belowK_b (w := w) (Nat.le_refl _) w9 D _ _ (by simp at hD; omega) hK9 rfl rfl)⟩
  case stop =>
    rintro D c W hD ⟨rfl, S, g, ⟨hue, hgt, hun⟩, hgr, hv, hbr, hBX⟩ hK
    have hU := HU.out S g hun
    clear hun hue
    have hcr := hbr.cell
    have HX := Lib.hid (show Calls Tryd.prog 28 #[.pointer (some ⟨b, 0, none⟩), .int .u8 93] W fun e w' => (∃ v, e = .returned v) ∧ RdAt w' b (g.expect 93) ∧ Only b W w' from expect_any W b g hgr (by rw [hgt]; omega) 93)
    obtain ⟨g', hg'⟩ : ∃ g', g' = g.expect 93 := ⟨_, rfl⟩
    rw [← hg'] at hU HX
    clear hg'
    gi_wp2_with fail
    refine ⟨trivial, (callsIn_wide.2 HX.out).mono ?_⟩
    rintro e w3 ⟨⟨vv, rfl⟩, h3, hO3⟩
    have hv3 : Box4 w3 w.heap.size S := (hO3.block _ hv.lt (by omega)).trans hv
    have hbr3 : Boxed w3 w1.heap.size 55 (.pointer (some ⟨b, 0, none⟩)) := (hO3.block _ hbr.lt (by omega)).trans hbr
    have hnl : D ≠ b := by simp at hD; omega
    have hK3 : w3.heap[D]? = some (.deferred (some [])) := (hO3.block D (Array.getElem?_eq_some_iff.1 hK).1 hnl).trans hK
    have hB3 : Below w.heap.size w w3 := hBX.trans (hO3.below (by omega) hBX.size)
    clear hcr HX hv hbr hK
    obtain ⟨x0, x1, x2, x3, x4⟩ := h3.cells
    have hcr := hbr3.cell
    obtain ⟨c0, c1, c2, c3⟩ := hv3.cells
    obtain ⟨f0, f1, f2, f3⟩ := hv3.free
    by_cases hge : g'.e = 0
    ·
      as_aux_lemma =>
        have he3 : ((g'.e : Int) != 0) = false := by rw [bne_eq_false_iff_eq]; omega
        rw [if_neg (by simpa using hge)] at hU
        have HU2 := Lib.hid hU
        clear hU hge
        gi_wp2_with fail
        gi_region
        all_goals
          gi_wp2
          have hDs : D ≠ w.heap.size := by simp at hD; omega
          have hK9 : (((((w3.setCell ⟨w.heap.size, 0, none⟩ (.int .u64 S.a)).setCell ⟨w.heap.size, 1, none⟩ (.int .u64 S.b)).setCell ⟨w.heap.size, 2, none⟩ (.int .u64 S.c)).setCell ⟨w.heap.size, 3, none⟩ (.int .u64 S.d)).drew).heap[D]? = some (.deferred (some [])) := ((Below.heap_setCell _ _ _ _ hDs).trans ((Below.heap_setCell _ _ _ _ hDs).trans ((Below.heap_setCell _ _ _ _ hDs).trans (Below.heap_setCell _ _ _ _ hDs)))).trans hK3
          have hv9 : Box4 (((((w3.setCell ⟨w.heap.size, 0, none⟩ (.int .u64 S.a)).setCell ⟨w.heap.size, 1, none⟩ (.int .u64 S.b)).setCell ⟨w.heap.size, 2, none⟩ (.int .u64 S.c)).setCell ⟨w.heap.size, 3, none⟩ (.int .u64 S.d)).drew) w.heap.size S := (hv3.store S).drew
          have hB9 : Below w.heap.size w (((((w3.setCell ⟨w.heap.size, 0, none⟩ (.int .u64 S.a)).setCell ⟨w.heap.size, 1, none⟩ (.int .u64 S.b)).setCell ⟨w.heap.size, 2, none⟩ (.int .u64 S.c)).setCell ⟨w.heap.size, 3, none⟩ (.int .u64 S.d)).drew) := ((((hB3.setCell (Nat.le_refl _) _).setCell (Nat.le_refl _) _).setCell (Nat.le_refl _) _).setCell (Nat.le_refl _) _).drew
          refine ⟨by simp, .inl ⟨_, _, rfl, run_takeDeferred hK9, ?_⟩⟩
          revert hK9 hv9 hB9
          generalize ((((w3.setCell ⟨w.heap.size, 0, none⟩ (.int .u64 S.a)).setCell ⟨w.heap.size, 1, none⟩ (.int .u64 S.b)).setCell ⟨w.heap.size, 2, none⟩ (.int .u64 S.c)).setCell ⟨w.heap.size, 3, none⟩ (.int .u64 S.d)).drew = w9
          intro hK9 hv9 hB9
          have hv10 : Box4 (w9.putObj D (.deferred none)) w.heap.size S := (World.putObj_heap_other (by omega)).trans hv9
          obtain ⟨d0, d1, d2, d3⟩ := hv10.cells
          exact ⟨unclV (S, g'.at', 0), by simp [results, Tryd.results14, unclV, S4.nil, go_sem, d0, d1, d2, d3], ⟨mb, by rw [HU2.out]⟩, hB9.trans (belowK_b (w := w) (Nat.le_refl _) w9 D _ _ (by simp at hD; omega) hK9 rfl rfl)⟩
    ·
      as_aux_lemma =>
        have he3 : ((g'.e : Int) != 0) = true := by rw [bne_iff_ne]; omega
        rw [if_pos hge] at hU
        have HU2 := Lib.hid hU
        clear hU hge
        gi_wp2_with fail
        gi_region
        all_goals
          gi_wp2
          have hDs : D ≠ w.heap.size := by simp at hD; omega
          have hK9 : (((((w3.setCell ⟨w.heap.size, 0, none⟩ (.int .u64 0)).setCell ⟨w.heap.size, 1, none⟩ (.int .u64 0)).setCell ⟨w.heap.size, 2, none⟩ (.int .u64 0)).setCell ⟨w.heap.size, 3, none⟩ (.int .u64 0)).drew).heap[D]? = some (.deferred (some [])) := ((Below.heap_setCell _ _ _ _ hDs).trans ((Below.heap_setCell _ _ _ _ hDs).trans ((Below.heap_setCell _ _ _ _ hDs).trans (Below.heap_setCell _ _ _ _ hDs)))).trans hK3
          have hv9 : Box4 (((((w3.setCell ⟨w.heap.size, 0, none⟩ (.int .u64 0)).setCell ⟨w.heap.size, 1, none⟩ (.int .u64 0)).setCell ⟨w.heap.size, 2, none⟩ (.int .u64 0)).setCell ⟨w.heap.size, 3, none⟩ (.int .u64 0)).drew) w.heap.size S4.nil := (hv3.store S4.nil).drew
          have hB9 : Below w.heap.size w (((((w3.setCell ⟨w.heap.size, 0, none⟩ (.int .u64 0)).setCell ⟨w.heap.size, 1, none⟩ (.int .u64 0)).setCell ⟨w.heap.size, 2, none⟩ (.int .u64 0)).setCell ⟨w.heap.size, 3, none⟩ (.int .u64 0)).drew) := ((((hB3.setCell (Nat.le_refl _) _).setCell (Nat.le_refl _) _).setCell (Nat.le_refl _) _).setCell (Nat.le_refl _) _).drew
          refine ⟨by simp, .inl ⟨_, _, rfl, run_takeDeferred hK9, ?_⟩⟩
          revert hK9 hv9 hB9
          generalize ((((w3.setCell ⟨w.heap.size, 0, none⟩ (.int .u64 0)).setCell ⟨w.heap.size, 1, none⟩ (.int .u64 0)).setCell ⟨w.heap.size, 2, none⟩ (.int .u64 0)).setCell ⟨w.heap.size, 3, none⟩ (.int .u64 0)).drew = w9
          intro hK9 hv9 hB9
          have hv10 : Box4 (w9.putObj D (.deferred none)) w.heap.size S4.nil := (World.putObj_heap_other (by omega)).trans hv9
          obtain ⟨d0, d1, d2, d3⟩ := hv10.cells
          exact ⟨unclV (S4.nil, g'.at', g'.e), by simp [results, Tryd.results14, unclV, S4.nil, go_sem, d0, d1, d2, d3], ⟨mb, by rw [HU2.out]⟩, hB9.trans (belowK_b (w := w) (Nat.le_refl _) w9 D _ _ (by simp at hD; omega) hK9 rfl rfl)⟩

end Go.Proofs.YtjaklcmadkpmdaaDoor
