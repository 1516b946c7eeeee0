/- NameFree's walk. -/
import Derived.Deep.QuietTactic
import Derived.BigQuiet
import Derived.Test.YtnonpolifipblaaDoorNamJ
namespace Go.Proofs.YtnonpolifipblaaDoor
open Go.RowKit Go.Shelf

theorem info_str : (Tryd.prog.info? 9).map (fun i => (i.zero, i.size, i.bytes)) = some (some (.string ⟨#[]⟩), 1, 16) := by kernel_rfl

theorem add_at (b off j : Nat) : (⟨b, off, none⟩ : Addr).add j = ⟨b, off + j, none⟩ := by
  unfold Addr.add
  split
  · rename_i h; rw [h]; rfl
  · rfl

/-- A row of one's own is a slice of texts. -/
theorem strs_of_row {base : Nat} {W : World} {v : Value} {us : List ByteArray} (h : W.ownsRow base 9 1 v us.length (us.map Value.string)) (hsz : ∀ s ∈ us, s.size ≤ maxLen) : StrsAt W.heap.size W v us := by
  have h' := h
  obtain ⟨h1, ⟨rfl, h0⟩ | ⟨g, cap, cur, rfl, hg, hh, hn, hc, _, _⟩⟩ := h
  · obtain rfl : us = [] := List.length_eq_zero_iff.1 h0
    exact ⟨⟨none, 0, rfl, by simp, by simp, fun _ => rfl, fun i h => by simp at h⟩, hsz⟩
  · refine ⟨⟨some ⟨g, 0, none⟩, cap, rfl, hn, hc, fun h => (by cases h), fun i hi => ⟨g, 0, rfl, (Array.getElem?_eq_some_iff.1 hh).1, ?_⟩⟩, hsz⟩
    have := h'.cells rfl i (.string us[i]) (by simp [hi])
    rw [add_at] at this
    exact this

theorem str_same (r : ByteArray) : (r.toList != r.toList) = false := by simp

open Go.ChangeShapes Go.WideShapes Go.ChangeAt in
/-- A slice of texts that came in. -/
theorem open_texts {H : Type} {enc : TypeId × Value → H} {W : World} {base : Nat} {v : Value} {d : DataW H} {p : List MemPlace} (hv : Value.okWide Tryd.prog W .any base 32 v) (h : DataW.Trod enc Tryd.prog W 0 (fun _ => true) true 32 v d p) : ∃ us, StrsAt W.heap.size W v us := by
  obtain ⟨a0, len0, cap0, rfl⟩ := okWide_slice Tryd.underlying32 hv
  obtain ⟨fuel, hf⟩ := h
  rcases open_strings Tryd.underlying32 Tryd.underlying9 (by kernel_rfl) hf with ⟨hcs, _⟩ | ⟨a, len, cap, ss, hcs, _, hl, hm, hz, _, hcell, hws⟩
  · simp [Value.cells] at hcs
    obtain ⟨rfl, rfl, rfl⟩ := hcs
    exact ⟨[], ⟨none, 0, rfl, by simp, by simp, fun _ => rfl, fun i h => by simp at h⟩, fun s h => by simp at h⟩
  · simp [Value.cells] at hcs
    obtain ⟨rfl, rfl, rfl⟩ := hcs
    simp only [if_true] at hz
    refine ⟨ss.take len0, ⟨some a, cap0, by simp [hz, Nat.min_eq_left hl], by simp; omega, hm, fun h => (by cases h), fun i hi => ?_⟩, fun s hs => hws s (List.mem_of_mem_take hs)⟩
    obtain ⟨b, off, spot⟩ := a
    have hi' : i < len0 ∧ i < ss.length := by
      have h0 : i < min len0 ss.length := by simpa using hi
      omega
    have hspot : spot = none := by simpa [Addr.add] using World.cell?_spot (hcell 0 (by omega))
    subst hspot
    have hc := hcell i hi'.2
    rw [add_at] at hc
    refine ⟨b, off, rfl, ?_, ?_⟩
    · have h0 := hc
      unfold World.cell? at h0
      split at h0
      · rename_i heq; exact (Array.getElem?_eq_some_iff.1 heq).1
      · cases h0
    · rw [hc]
      simp [List.getD, List.getElem?_eq_getElem hi'.2]

set_option maxRecDepth 100000 in
set_option maxHeartbeats 1000000 in
theorem nfree_walk (stem : ByteArray) (us : List ByteArray) (v : Value) (w : World) (hI : Inv w) (hv : StrsAt w.heap.size w v us) :
    Calls Tryd.prog 4 #[.string stem, v] w fun e w' => e = .returned (.bool true) ∧ Below w.heap.size w w' := by
  have hB : Below w.heap.size w w := Below.refl _ _
  obtain ⟨⟨p, cap, rfl, hc1, hc2, hc3, hcells⟩, hsz⟩ := hv
  have hv : StrsAt w.heap.size w (.slice p us.length cap) us := ⟨⟨p, cap, rfl, hc1, hc2, hc3, hcells⟩, hsz⟩
  by_cases hlong : 200 < stem.size
  · go_enter Tryd.func4, Tryd.ntmps4
    go_wp2_with fail
    refine (works_any hI hB).mono ?_
    rintro e w1 ⟨rfl, hb1⟩
    go_wp2
    go_ret
    exact ⟨rfl, bstep hB hb1⟩
  · have hs200 : stem.size ≤ 200 := by omega
    by_cases hmany : 300 < us.length
    · go_enter Tryd.func4, Tryd.ntmps4
      go_wp2_with fail
      refine (works_any hI hB).mono ?_
      rintro e w1 ⟨rfl, hb1⟩
      go_wp2
      go_ret
      exact ⟨rfl, bstep hB hb1⟩
    · have hu : us.length ≤ 300 := by omega
      obtain ⟨i0, hi, hz0, hz1, hz2⟩ := info_parts info_str
      cases p with
      | none =>
        obtain rfl : us = [] := List.length_eq_zero_iff.1 (by have := hc3 rfl; omega)
        obtain rfl : cap = 0 := hc3 rfl
        have HV := Lib.hid hv
        clear hcells hv hsz hc3
        have hst : StrsAt (w.alloc (.cells #[] 9)).heap.size (w.alloc (.cells #[] 9)) (.slice (some ⟨w.heap.size, 0, none⟩) 0 0) [] :=
          ⟨⟨some ⟨w.heap.size, 0, none⟩, 0, rfl, Nat.le_refl _, by unfold maxLen; omega, fun h => (by cases h), fun i h => by simp at h⟩, fun s h => by simp at h⟩
        have hB1 : Below w.heap.size w (w.alloc (.cells #[] 9)) := (Below.refl w.heap.size w).alloc (Nat.le_refl _) _
        go_enter Tryd.func4, Tryd.ntmps4
        go_wp2_with fail
        refine (free_any stem hs200 [] (by simp) _ _ _ (Nat.le_refl _) hst hI hB1).mono ?_
        rintro e w2 ⟨r, ⟨rfl, hr⟩, hb2⟩
        have hB2 := bstep hB1 hb2
        go_wp2_with fail
        refine (rfree_any stem hs200 [] (by simp) _ w.heap.size w2 hB2.size (HV.out.below hB2 (Nat.le_refl _))).mono ?_
        rintro e w3 ⟨r', ⟨rfl, hr'⟩, hb3⟩
        obtain rfl := hr.unique hr'
        have hB3 := bstep hB2 hb3
        have hrr := str_same r
        clear hr hr' hst
        go_wp2_with fail
        go_loop [6] (fun i => i = .int .i64 0) (fun _ => 0)
        case atStart => rfl
        case round =>
          obtain rfl := hrel
          go_wp2_with fail
          refine (works_any hI hB3).mono ?_
          rintro e w4 ⟨rfl, hb4⟩
          go_wp2
          go_ret
          exact ⟨rfl, bstep hB3 hb4⟩
      | some ad =>
        have hnews : ∀ (j : Nat) (u : Value), (us.map Value.string)[j]? = some u → (w.alloc (.cells #[] 9)).cell? (ad.add j) = some u := by
          intro j u hj
          rw [List.getElem?_map, Option.map_eq_some_iff] at hj
          obtain ⟨x, hx, rfl⟩ := hj
          obtain ⟨hlt, rfl⟩ := List.getElem?_eq_some_iff.1 hx
          obtain ⟨b, off, e, hbw, hc⟩ := hcells j hlt
          cases e
          have h := (((Below.refl w.heap.size w).alloc (Nat.le_refl _) (.cells #[] 9)).cell (p := ⟨b, off + j, none⟩) hbw).trans hc
          rw [add_at]
          exact h
        have hrow0 : (w.alloc (.cells #[] 9)).ownsRow w.heap.size 9 1 (.slice (some ⟨w.heap.size, 0, none⟩) 0 0) 0 [] :=
          ⟨rfl, .inr ⟨w.heap.size, 0, #[], rfl, Nat.le_refl _, World.alloc_heap_new _ _, Nat.le_refl _, by unfold maxLen; omega, rfl, rfl⟩⟩
        have HN := Lib.hid hnews
        have HR := Lib.hid hrow0
        have HV := Lib.hid hv
        have HZ := Lib.hid hsz
        clear hnews hrow0 hcells hv hsz hc3
        go_enter Tryd.func4, Tryd.ntmps4
        go_wp2_with (at_builtin; refine wpList_append_own _ rfl _ _ 32 rfl w.heap.size 9 i0 (.string ⟨#[]⟩) 1 16 Tryd.underlying32 hi hz0 hz1 hz2 rfl (by decide) _ 0 [] rfl HR.out ad us.length cap (us.map Value.string) rfl (by simp) HN.out (by intro u hu; simp at hu; obtain ⟨x, _, rfl⟩ := hu; rfl) (by unfold maxLen; omega) (by omega) (by simp) ?_; intro v' w1 hown hgrow hnil; rw [Nat.zero_add, List.nil_append] at hown; have hst := strs_of_row hown HZ.out; have hB1 : Below w.heap.size w w1 := (((Below.refl w.heap.size w).alloc (Nat.le_refl _) (.cells #[] 9)).grown hgrow (by simp) (fun k e => by cases e; simp)); clear hown hgrow hnil; obtain ⟨⟨p', cap', rfl, a1, a2, a3, hcells'⟩, a4⟩ := hst; have hst := Lib.hid (show StrsAt w1.heap.size w1 (.slice p' us.length cap') us from ⟨⟨p', cap', rfl, a1, a2, a3, hcells'⟩, a4⟩); clear a1 a2 a3 a4 hcells')
        refine (free_any stem hs200 us (by omega) _ w1.heap.size w1 (Nat.le_refl _) hst.out hI hB1).mono ?_
        rintro e w2 ⟨r, ⟨rfl, hr⟩, hb2⟩
        have hB2 := bstep hB1 hb2
        have hst2 := Lib.hid (hst.out.below hb2 (Nat.le_refl _))
        go_wp2_with fail
        refine (rfree_any stem hs200 us (by omega) _ w.heap.size w2 hB2.size (HV.out.below hB2 (Nat.le_refl _))).mono ?_
        rintro e w3 ⟨r', ⟨rfl, hr'⟩, hb3⟩
        obtain rfl := hr.unique hr'
        have hB3 := bstep hB2 hb3
        have hst3 := Lib.hid (hst2.out.below hb3 hb2.size)
        have hv3 := Lib.hid (HV.out.below hB3 (Nat.le_refl _))
        have hrr := str_same r
        clear hr hr' hst hst2
        go_wp2_with fail
        go_loopw [6] (fun i wr => ∃ k : Nat, k ≤ us.length ∧ i = .int .i64 k ∧ Below w3.heap.size w3 wr) (fun i _ => us.length - (intOf i).toNat)
        case atStart => exact ⟨0, by omega, rfl, Below.refl _ _⟩
        case round =>
          obtain ⟨k, hk, rfl, hbr⟩ := hrel
          by_cases hlt : k < us.length
          · have hd : decide ((k : Int) < (us.length : Int)) = true := by simp; omega
            have hst4 := hst3.out.below hbr (Nat.le_trans hb2.size hb3.size)
            have hv4 := hv3.out.below hbr hB3.size
            obtain ⟨⟨_, _, e1, _, _, _, hx⟩, _⟩ := hst4
            cases e1
            obtain ⟨b1, o1, rfl, _, hc1'⟩ := hx k hlt
            obtain ⟨⟨_, _, e2, _, _, _, hy⟩, _⟩ := hv4
            cases e2
            obtain ⟨b2, o2, e3, _, hc2'⟩ := hy k hlt
            cases e3
            clear hx hy
            have hss := str_same us[k]
            have hin : (k : Int) < (us.length : Int) := by omega
            go_wp2_with fail
            go_quiet (fail)
            generalize hwq : World.drewN _ _ = wq
            have hbq : Below w3.heap.size w3 wq := by rw [← hwq]; exact bstep hbr (below_drew _ _)
            go_wp2_with fail
            go_roundw
            case rel => exact ⟨k + 1, by omega, by go_num, hbq⟩
            case measure => simp [intOf]; omega
          · have hd : decide ((k : Int) < (us.length : Int)) = false := by simp; omega
            obtain rfl : k = us.length := by omega
            have hB4 := bstep hB3 hbr
            go_wp2_with fail
            refine (works_any hI hB4).mono ?_
            rintro e w4 ⟨rfl, hb4⟩
            go_wp2
            go_ret
            exact ⟨rfl, bstep hB4 hb4⟩
end Go.Proofs.YtnonpolifipblaaDoor
