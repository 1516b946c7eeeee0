/- The walk of the statement on the runs of a set: for every set it answers yes, and nothing that was there has changed. -/
import Derived.Test.YtdingmbijglihaaDoorSetP
import Derived.StillTailTactics
import Derived.Deep.QuietTactic
import Derived.BigQuiet
import Derived.IntWalk
namespace Go.Proofs.YtdingmbijglihaaDoor
open Go.RowKit Go.Shelf

/-- Four words stored into a box: what lies elsewhere stays. -/
theorem store_all {w W : World} {Bo b g : Nat} {s x : S4} {o : Option Obj} (hO : Box4 W Bo s) (hX : Box4 W b x) (hT : Tab W) (hB : Below w.heap.size w W) (hG : W.heap[g]? = o) (hb : b ≠ Bo) (hg : Bo ≠ g) (hw : w.heap.size ≤ Bo) (ht : 0 < Bo) (t : S4) :
    Box4 ((((W.setCell ⟨Bo, 0, none⟩ (.int .u64 t.a)).setCell ⟨Bo, 1, none⟩ (.int .u64 t.b)).setCell ⟨Bo, 2, none⟩ (.int .u64 t.c)).setCell ⟨Bo, 3, none⟩ (.int .u64 t.d)) Bo t ∧
    Box4 ((((W.setCell ⟨Bo, 0, none⟩ (.int .u64 t.a)).setCell ⟨Bo, 1, none⟩ (.int .u64 t.b)).setCell ⟨Bo, 2, none⟩ (.int .u64 t.c)).setCell ⟨Bo, 3, none⟩ (.int .u64 t.d)) b x ∧
    Tab ((((W.setCell ⟨Bo, 0, none⟩ (.int .u64 t.a)).setCell ⟨Bo, 1, none⟩ (.int .u64 t.b)).setCell ⟨Bo, 2, none⟩ (.int .u64 t.c)).setCell ⟨Bo, 3, none⟩ (.int .u64 t.d)) ∧
    Below w.heap.size w ((((W.setCell ⟨Bo, 0, none⟩ (.int .u64 t.a)).setCell ⟨Bo, 1, none⟩ (.int .u64 t.b)).setCell ⟨Bo, 2, none⟩ (.int .u64 t.c)).setCell ⟨Bo, 3, none⟩ (.int .u64 t.d)) ∧
    ((((W.setCell ⟨Bo, 0, none⟩ (.int .u64 t.a)).setCell ⟨Bo, 1, none⟩ (.int .u64 t.b)).setCell ⟨Bo, 2, none⟩ (.int .u64 t.c)).setCell ⟨Bo, 3, none⟩ (.int .u64 t.d)).heap[g]? = o := by
  refine ⟨hO.store t, (((hX.other hb _).other hb _).other hb _).other hb _, ?_, (((hB.setCell hw _).setCell hw _).setCell hw _).setCell hw _, ?_⟩
  · exact hT.below (B := Bo) (((((Below.refl Bo W).setCell (Nat.le_refl _) _).setCell (Nat.le_refl _) _).setCell (Nat.le_refl _) _).setCell (Nat.le_refl _) _) ht
  · rw [Below.heap_setCell _ _ _ _ (Ne.symm hg), Below.heap_setCell _ _ _ _ (Ne.symm hg), Below.heap_setCell _ _ _ _ (Ne.symm hg), Below.heap_setCell _ _ _ _ (Ne.symm hg)]
    exact hG

set_option maxRecDepth 100000 in
set_option maxHeartbeats 16000000 in
theorem runs_walk (x : S4) (hx : x.ok) (w : World) (hT : Tab w) :
    Calls Tryd.prog 7 #[x.v] w fun e w' => e = .returned (.bool true) ∧ Below w.heap.size w w' := by
  go_enter Tryd.func7, Tryd.ntmps7
  go_wp2_with fail
  have hB0 : Below w.heap.size w (w.alloc (.cells #[.int .u64 x.a, .int .u64 x.b, .int .u64 x.c, .int .u64 x.d] 26)) := (Below.refl _ w).alloc (Nat.le_refl _) _
  have hbx := Box4.new w x
  have hT0 := hT.step hB0
  refine (awake_any _ hT0).mono ?_
  rintro e w1 ⟨rfl, hb⟩
  have hbx := hbx.below hb hbx.lt
  have hT1 := hT0.step hb
  have hB1 := bstep hB0 hb
  clear hb hB0 hT0
  obtain ⟨x0, x1, x2, x3⟩ := hbx.cells
  have hne : w.heap.size < w1.heap.size := hbx.lt
  go_wp2_with fail
  have hbo := Box4.new w1 S4.nil
  have hbx2 := hbx.alloc (.cells #[.int .u64 0, .int .u64 0, .int .u64 0, .int .u64 0] 26)
  have hT2 := hT1.step ((Below.refl _ w1).alloc (Nat.le_refl _) (.cells #[.int .u64 0, .int .u64 0, .int .u64 0, .int .u64 0] 26))
  have hB2 := hB1.alloc hB1.size (.cells #[.int .u64 0, .int .u64 0, .int .u64 0, .int .u64 0] 26)
  refine (runs_any x hx _ hT2).mono ?_
  rintro e w3 ⟨v, rfl, hrow, hb⟩
  have hbo : Box4 w3 w1.heap.size S4.nil := Box4.below hbo hb hbo.lt
  have hbx3 := hbx2.below hb hbx2.lt
  have hT3 := hT2.step hb
  have hB3 := bstep hB2 hb
  obtain ⟨Bo, hBo⟩ : ∃ Bo, w1.heap.size = Bo := ⟨_, rfl⟩
  rw [hBo] at hbo hne ⊢
  have hsz : Bo < (w1.alloc (.cells #[.int .u64 0, .int .u64 0, .int .u64 0, .int .u64 0] 26)).heap.size := by rw [World.size_alloc]; omega
  have hrow : w3.ownsRow (w1.alloc (.cells #[.int .u64 0, .int .u64 0, .int .u64 0, .int .u64 0] 26)).heap.size 40 2 v (runsOf x).length (runsV (runsOf x)) := hrow
  obtain ⟨hl1, ⟨rfl, h0⟩ | ⟨g, cap, cur, rfl, hg, hh, hn, hc, hcs, ht⟩⟩ := hrow
  · have hx0 : x = S4.nil := by
      have h := upTo_all hx
      have e : (runsOf x).length = 0 := h0
      rw [e, upTo_zero] at h
      exact h.symm
    subst hx0
    have hlen0 : S4.nil.lst.length = 0 := by decide +kernel
    obtain ⟨o0, o1, o2, o3⟩ := hbo.cells
    obtain ⟨y0, y1, y2, y3⟩ := hbx3.cells
    clear x0 x1 x2 x3 hl1 h0 hrow hbx hbx2 hT1 hT2 hB1 hB2 hT hb hBo hsz
    go_wp2_with fail
    refine wp_loop_rounds 1 ?_
    rw [rounds_succ]
    go_wp2_with (go_at_call 14; refine (len_any S4.nil S4.ok_nil _).mono ?_; rintro e w5 ⟨rfl, hb⟩; rw [hlen0])
    go_ret
    exact ⟨rfl, bstep hB3 hb⟩
  · have hrow : w3.ownsRow (w1.alloc (.cells #[.int .u64 0, .int .u64 0, .int .u64 0, .int .u64 0] 26)).heap.size 40 2 (.slice (some ⟨g, 0, none⟩) (runsOf x).length cap) (runsOf x).length (runsV (runsOf x)) := ⟨hl1, .inr ⟨g, cap, cur, rfl, hg, hh, hn, hc, hcs, ht⟩⟩
    have hgo : Bo ≠ g := by omega
    have hgl : g < w3.heap.size := lt_of_block hh
    clear hl1 hg hh hn hcs ht x0 x1 x2 x3 hb hBo hsz hbx hbx2 hT1 hT2 hB1 hB2 hT
    obtain ⟨L, hL⟩ : ∃ L, (runsOf x).length = L := ⟨_, rfl⟩
    have HL := Lib.hid hL
    rw [hL] at hrow ⊢
    clear hL
    have hLm : L ≤ 256 := by
      rw [← HL.out]
      have h1 := rs_len (lstB x)
      have h2 := List.length_filter_le x.has (List.range 256)
      rw [List.length_range] at h2
      have h3 : x.lst.length ≤ 256 := h2
      rw [lstB_len] at h1
      have h4 : (runsOf x).length ≤ x.lst.length := h1
      omega
    have hcells : ∀ j p, (runsOf x)[j]? = some p → w3.cell? ⟨g, j * 2, none⟩ = some (.int .u8 p.1.toNat) ∧ w3.cell? ⟨g, j * 2 + 1, none⟩ = some (.int .u8 p.2.toNat) := by
      intro j p hp
      have hj : j < L := by rw [← HL.out]; exact (List.getElem?_eq_some_iff.1 hp).1
      rw [hrow.cellAt _ (by omega), hrow.cellAt _ (by omega)]
      exact runsV_at _ j p hp
    clear hrow
    have HC := Lib.hid hcells
    clear hcells
    go_wp2
    go_loopw [4, 6] (fun n i wr => ∃ k : Nat, k ≤ L ∧ i = .int .i64 k ∧ n = .int .i64 (cntTo x k) ∧ Box4 wr Bo (upTo x k) ∧ Box4 wr w.heap.size x ∧ Tab wr ∧ Below w.heap.size w wr ∧ wr.heap[g]? = w3.heap[g]?)
      (fun _ i _ => L - (intOf i).toNat)
    case atStart => exact ⟨0, Nat.zero_le _, rfl, rfl, hbo, hbx3, hT3, hB3, rfl⟩
    case round =>
      obtain ⟨k, hk, rfl, rfl, hO, hX, hTr, hBr, hG⟩ := hrel
      have hcl := cntTo_le x k
      by_cases hlt : k < L
      · obtain ⟨p, hp⟩ : ∃ p, (runsOf x)[k]? = some p := ⟨_, List.getElem?_eq_getElem (by rw [HL.out]; exact hlt)⟩
        obtain ⟨q0, q1⟩ := HC.out k p hp
        have c0 := (World.cell?_of_block hG).trans q0
        have c1 := (World.cell?_of_block hG).trans q1
        clear q0 q1
        have hle := (runsOf_runny x).1 p (List.mem_of_getElem? hp)
        have p1 := p.1.toNat_lt
        have p2 := p.2.toNat_lt
        have hki : (k : Int) < (L : Int) := by omega
        have hk0 : (0 : Int) ≤ (k : Int) := by omega
        have ht1 : decide (p.2.toNat < p.1.toNat) = false := decide_eq_false (by omega)
        have HG := Lib.hid hG
        have HP := Lib.hid hp
        clear hG hp
        obtain ⟨o0, o1, o2, o3⟩ := hO.cells
        have hsz1 := hO.lt
        have hcount : cntTo x (k + 1) = cntTo x k + (p.2.toNat + 1 - p.1.toNat) := cntTo_succ x k p HP.out
        have hcl2 := cntTo_le x (k + 1)
        have hup := upTo_succ x k p HP.out
        have HCo := Lib.hid hcount
        have HUp := Lib.hid hup
        have s1 : IntKind.i64.wrap ((cntTo x k : Int) + (p.2.toNat : Int)) = (cntTo x k : Int) + (p.2.toNat : Int) := IntWalk.i64_in _ (by omega)
        have s2 : IntKind.i64.wrap ((cntTo x k : Int) + (p.2.toNat : Int) - (p.1.toNat : Int)) = (cntTo x k : Int) + (p.2.toNat : Int) - (p.1.toNat : Int) := IntWalk.i64_in _ (by omega)
        have s3 : IntKind.i64.wrap ((cntTo x k : Int) + (p.2.toNat : Int) - (p.1.toNat : Int) + 1) = (cntTo x k : Int) + (p.2.toNat : Int) - (p.1.toNat : Int) + 1 := IntWalk.i64_in _ (by omega)
        have S1 := Lib.hid s1
        have S2 := Lib.hid s2
        have S3 := Lib.hid s3
        clear hcount hup s1 s2 s3
        by_cases hk1 : k = 0
        · have hd0 : decide ((0 : Int) < (k : Int)) = false := decide_eq_false (by omega)
          have hd1 : decide (0 < k) = false := decide_eq_false (by omega)
          clear hk1
          go_wp2_with fail
          go_quiet (fail)
          go_wp2_with fail
          generalize hwq : wr.drewN nq = wq
          have hO1 : Box4 wq Bo (upTo x k) := by rw [← hwq]; exact hO
          have hX1 : Box4 wq w.heap.size x := by rw [← hwq]; exact hX
          have hT1 : Tab wq := by rw [← hwq]; exact hTr
          have hB1 : Below w.heap.size w wq := by rw [← hwq]; exact ⟨hBr.os, hBr.tape, hBr.output, hBr.size, hBr.block⟩
          have hG1 : wq.heap[g]? = w3.heap[g]? := by rw [← hwq]; exact HG.out
          have c0 : wq.cell? ⟨g, k * 2, none⟩ = some (.int .u8 p.1.toNat) := by rw [← hwq]; exact c0
          have c1 : wq.cell? ⟨g, k * 2 + 1, none⟩ = some (.int .u8 p.2.toNat) := by rw [← hwq]; exact c1
          clear o0 o1 o2 o3 hO hX hTr hBr HG hwq hsz1
          have hsz1 := hO1.lt
          have hgq : g < wq.heap.size := lt_of_cell c0
          have HG := Lib.hid hG1
          clear hG1
          obtain ⟨o0, o1, o2, o3⟩ := hO1.cells
          obtain ⟨f0, f1, f2, f3⟩ := hO1.free
          have hQ := Lib.hid (Below.refl wq.heap.size wq)
          have hsz2 : wq.heap.size ≤ wq.heap.size := Nat.le_refl _
          go_region_with (first
            | (go_at_call 10; refine (range_any p.1.toNat p.2.toNat p1 p2 _).mono ?_; rintro e w4 ⟨rfl, hb⟩; have hQ := Lib.hid (Below.trans (by first | exact hQ.out | exact hQ.out.drew) (hb.mono (by first | exact hsz2 | (simp; done)))); have hsz2 := Nat.le_trans hsz2 hb.size; clear hb; obtain ⟨hcc, hff⟩ := bcell hQ.out)
            | (go_at_call 30; refine (or_any (upTo x k) (S4.nil.ofL (span p)) (ok_upTo x k) (S4.ok_ofL _ S4.ok_nil) _).mono ?_; rintro e w4 ⟨rfl, hb⟩; have hQ := Lib.hid (Below.trans (by first | exact hQ.out | exact hQ.out.drew) (hb.mono (by first | exact hsz2 | (simp; done)))); have hsz2 := Nat.le_trans hsz2 hb.size; clear hb; rw [HUp.out]; obtain ⟨hcc, hff⟩ := bcell hQ.out))
          all_goals
            obtain ⟨hO6, hX6, hT6, hB6, hG6⟩ := store_all (hO1.below hQ.out hsz1) (hX1.below hQ.out hX1.lt) (hT1.step hQ.out) (bstep hB1 hQ.out) ((hQ.out.block g hgq).trans HG.out) (by omega) hgo (by omega) (by omega) (upTo x (k + 1))
            clear hcc hff hQ hsz2
            generalize (((World.setCell _ ⟨Bo, 0, none⟩ (.int .u64 (upTo x (k + 1)).a)).setCell ⟨Bo, 1, none⟩ (.int .u64 (upTo x (k + 1)).b)).setCell ⟨Bo, 2, none⟩ (.int .u64 (upTo x (k + 1)).c)).setCell ⟨Bo, 3, none⟩ (.int .u64 (upTo x (k + 1)).d) = W6 at *
            have d0 := (World.cell?_of_block hG6).trans (HC.out k p HP.out).1
            have d1 := (World.cell?_of_block hG6).trans (HC.out k p HP.out).2
            have HG6 := Lib.hid hG6
            clear hG6 c0 c1 o0 o1 o2 o3 f0 f1 f2 f3 hO1 hX1 hT1 hB1 HG
            have s1 := S1.out
            have s2 := S2.out
            have s3 := S3.out
            go_wp2_with fail
            go_quiet (fail)
            clear s1 s2 s3
            go_wp2_with fail
            refine ⟨⟨k + 1, by omega, by go_num, ?_, hO6, hX6, hT6, ⟨hB6.os, hB6.tape, hB6.output, hB6.size, hB6.block⟩, HG6.out⟩, by simp [intOf]; omega⟩
            have he : ((cntTo x k : Int) + (p.2.toNat : Int) - (p.1.toNat : Int) + 1) = ((cntTo x (k + 1) : Nat) : Int) := by rw [HCo.out]; omega
            rw [he]
        · have hd0 : decide ((0 : Int) < (k : Int)) = true := decide_eq_true (by omega)
          have hd1 : decide (0 < k) = true := decide_eq_true (by omega)
          obtain ⟨q, hq⟩ : ∃ q, (runsOf x)[k - 1]? = some q := ⟨_, List.getElem?_eq_getElem (by rw [HL.out]; omega)⟩
          have hgap := (runsOf_runny x).2 (k - 1) q p hq (by rw [show k - 1 + 1 = k by omega]; exact HP.out)
          have e1 := (World.cell?_of_block HG.out).trans (HC.out (k - 1) q hq).2
          have hq2 := q.2.toNat_lt
          have hkm : (0 : Int) ≤ (k : Int) - 1 := by omega
          have hkl : (k : Int) - 1 < (L : Int) := by omega
          have ht2 : decide ((p.1.toNat : Int) < (q.2.toNat : Int) + 2) = false := decide_eq_false (by omega)
          have hw1 : IntKind.i64.wrap ((k : Int) - 1) = (k : Int) - 1 := IntWalk.i64_in _ (by omega)
          have hw2 : IntKind.i64.wrap ((q.2.toNat : Int) + 2) = (q.2.toNat : Int) + 2 := IntWalk.i64_in _ (by omega)
          have hw3 : ((k : Int) - 1).toNat = k - 1 := by omega
          clear hk1 hq hgap
          go_wp2_with fail
          go_quiet (fail)
          clear hw1 hw2 hw3
          go_wp2_with fail
          generalize hwq : wr.drewN nq = wq
          have hO1 : Box4 wq Bo (upTo x k) := by rw [← hwq]; exact hO
          have hX1 : Box4 wq w.heap.size x := by rw [← hwq]; exact hX
          have hT1 : Tab wq := by rw [← hwq]; exact hTr
          have hB1 : Below w.heap.size w wq := by rw [← hwq]; exact ⟨hBr.os, hBr.tape, hBr.output, hBr.size, hBr.block⟩
          have hG1 : wq.heap[g]? = w3.heap[g]? := by rw [← hwq]; exact HG.out
          have c0 : wq.cell? ⟨g, k * 2, none⟩ = some (.int .u8 p.1.toNat) := by rw [← hwq]; exact c0
          have c1 : wq.cell? ⟨g, k * 2 + 1, none⟩ = some (.int .u8 p.2.toNat) := by rw [← hwq]; exact c1
          clear o0 o1 o2 o3 hO hX hTr hBr HG hwq hsz1
          have hsz1 := hO1.lt
          have hgq : g < wq.heap.size := lt_of_cell c0
          have HG := Lib.hid hG1
          clear hG1
          obtain ⟨o0, o1, o2, o3⟩ := hO1.cells
          obtain ⟨f0, f1, f2, f3⟩ := hO1.free
          have hQ := Lib.hid (Below.refl wq.heap.size wq)
          have hsz2 : wq.heap.size ≤ wq.heap.size := Nat.le_refl _
          go_region_with (first
            | (go_at_call 10; refine (range_any p.1.toNat p.2.toNat p1 p2 _).mono ?_; rintro e w4 ⟨rfl, hb⟩; have hQ := Lib.hid (Below.trans (by first | exact hQ.out | exact hQ.out.drew) (hb.mono (by first | exact hsz2 | (simp; done)))); have hsz2 := Nat.le_trans hsz2 hb.size; clear hb; obtain ⟨hcc, hff⟩ := bcell hQ.out)
            | (go_at_call 30; refine (or_any (upTo x k) (S4.nil.ofL (span p)) (ok_upTo x k) (S4.ok_ofL _ S4.ok_nil) _).mono ?_; rintro e w4 ⟨rfl, hb⟩; have hQ := Lib.hid (Below.trans (by first | exact hQ.out | exact hQ.out.drew) (hb.mono (by first | exact hsz2 | (simp; done)))); have hsz2 := Nat.le_trans hsz2 hb.size; clear hb; rw [HUp.out]; obtain ⟨hcc, hff⟩ := bcell hQ.out))
          all_goals
            obtain ⟨hO6, hX6, hT6, hB6, hG6⟩ := store_all (hO1.below hQ.out hsz1) (hX1.below hQ.out hX1.lt) (hT1.step hQ.out) (bstep hB1 hQ.out) ((hQ.out.block g hgq).trans HG.out) (by omega) hgo (by omega) (by omega) (upTo x (k + 1))
            clear hcc hff hQ hsz2
            generalize (((World.setCell _ ⟨Bo, 0, none⟩ (.int .u64 (upTo x (k + 1)).a)).setCell ⟨Bo, 1, none⟩ (.int .u64 (upTo x (k + 1)).b)).setCell ⟨Bo, 2, none⟩ (.int .u64 (upTo x (k + 1)).c)).setCell ⟨Bo, 3, none⟩ (.int .u64 (upTo x (k + 1)).d) = W6 at *
            have d0 := (World.cell?_of_block hG6).trans (HC.out k p HP.out).1
            have d1 := (World.cell?_of_block hG6).trans (HC.out k p HP.out).2
            have HG6 := Lib.hid hG6
            clear hG6 c0 c1 o0 o1 o2 o3 f0 f1 f2 f3 hO1 hX1 hT1 hB1 HG
            have s1 := S1.out
            have s2 := S2.out
            have s3 := S3.out
            go_wp2_with fail
            go_quiet (fail)
            clear s1 s2 s3
            go_wp2_with fail
            refine ⟨⟨k + 1, by omega, by go_num, ?_, hO6, hX6, hT6, ⟨hB6.os, hB6.tape, hB6.output, hB6.size, hB6.block⟩, HG6.out⟩, by simp [intOf]; omega⟩
            have he : ((cntTo x k : Int) + (p.2.toNat : Int) - (p.1.toNat : Int) + 1) = ((cntTo x (k + 1) : Nat) : Int) := by rw [HCo.out]; omega
            rw [he]
      · obtain rfl : k = L := by omega
        have hU : upTo x k = x := by
          have h := upTo_all hx
          rw [HL.out] at h; exact h
        have hn : cntTo x k = x.lst.length := by
          have h := cntTo_all x
          rw [HL.out] at h; exact h
        rw [hU] at hO
        rw [hn]
        clear hU hn hcl hG HL HC
        obtain ⟨o0, o1, o2, o3⟩ := hO.cells
        obtain ⟨x0, x1, x2, x3⟩ := hX.cells
        go_wp2_with (go_at_call 14; refine (len_any x hx _).mono ?_; rintro e w5 ⟨rfl, hb⟩)
        go_ret
        exact ⟨rfl, bstep hBr hb⟩
end Go.Proofs.YtdingmbijglihaaDoor
