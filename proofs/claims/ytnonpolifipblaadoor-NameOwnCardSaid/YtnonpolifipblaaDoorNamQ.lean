/- NameOwn's walk. -/
import Derived.Test.YtnonpolifipblaaDoorNamK
import Derived.Test.YtnonpolifipblaaDoorNamTw
namespace Go.Proofs.YtnonpolifipblaaDoor
open Go.RowKit Go.Shelf

theorem prefix_eq {s t : ByteArray} (h : t.data.toList <+: s.data.toList) : t.size ≤ s.size ∧ ((s.extract 0 t.size).toList == t.toList) = true := by
  refine ⟨by rw [← size_list, ← size_list]; exact h.length_le, ?_⟩
  rw [ByteArray.toList_eq, ByteArray.toList_eq, beq_iff_eq]
  simp only [ByteArray.data_extract, Array.toList_extract]
  obtain ⟨r, hr⟩ := h
  rw [← hr]
  rw [← size_list]
  simp [List.extract]

theorem may_is {s : ByteArray} {b : Bool} (hs : s.size ≤ maxLen) (h : mayB s = b) (w : World) : Calls Tryd.prog 14 #[.string s] w fun e w' => e = .returned (.bool b) ∧ w' = w := by
  subst h
  exact may_any s hs w

theorem IsFree.size {stem r : ByteArray} {us : List ByteArray} (hs : stem.size ≤ 200) (h : IsFree stem us r) : r.size ≤ maxLen := by
  obtain ⟨k, _, _, ⟨_, rfl⟩ | ⟨_, _, rfl⟩⟩ := h
  · exact Nat.zero_le _
  · exact try_size hs k

/-- The first row of one's own: nothing in it. -/
theorem row_zero (w : World) : (w.alloc (.cells #[] 9)).ownsRow w.heap.size 9 1 (.slice (some ⟨w.heap.size, 0, none⟩) 0 0) 0 [] :=
  ⟨rfl, .inr ⟨w.heap.size, 0, #[], rfl, Nat.le_refl _, World.alloc_heap_new _ _, Nat.le_refl _, by unfold maxLen; omega, rfl, rfl⟩⟩

theorem own_at {w : World} {B e size n : Nat} {v : Value} {xs : List Value} (h : w.ownsRow B e size v n xs) : ∀ k, v.ownBlock = some k → B ≤ k := by
  obtain ⟨_, ⟨rfl, _⟩ | ⟨g, cap, cur, rfl, hg, _⟩⟩ := h
  · intro k e; cases e
  · intro k e; cases e; exact hg

/-- The texts behind an append of one more. -/
theorem strs_more {base : Nat} {W : World} {v : Value} {us : List ByteArray} {r : ByteArray} (h : W.ownsRow base 9 1 v (us.length + 1) (us.map Value.string ++ [.string r])) (hsz : ∀ s ∈ us, s.size ≤ maxLen) (hr : r.size ≤ maxLen) : StrsAt W.heap.size W v (us ++ [r]) := by
  refine strs_of_row (base := base) ?_ ?_
  · rw [List.length_append, List.map_append]; exact h
  · intro s hs
    rcases List.mem_append.1 hs with hs | hs
    · exact hsz s hs
    · obtain rfl : s = r := by simpa using hs
      exact hr

theorem strs_news {w : World} {ad : Addr} {us : List ByteArray} {cap : Nat} {B : Nat} (h : StrsAt B w (.slice (some ad) us.length cap) us) (j : Nat) (u : Value) (hj : (us.map Value.string)[j]? = some u) (hB : B ≤ w.heap.size) :
    (w.alloc (.cells #[] 9)).cell? (ad.add j) = some u := by
  rw [List.getElem?_map, Option.map_eq_some_iff] at hj
  obtain ⟨x, hx, rfl⟩ := hj
  obtain ⟨hlt, rfl⟩ := List.getElem?_eq_some_iff.1 hx
  obtain ⟨⟨p, _, e, _, _, _, hcc⟩, _⟩ := h
  cases e
  obtain ⟨b, off, e, hbw, hc⟩ := hcc j hlt
  cases e
  have h := (((Below.refl w.heap.size w).alloc (Nat.le_refl _) (.cells #[] 9)).cell (p := ⟨b, off + j, none⟩) (by show b < w.heap.size; omega)).trans hc
  rw [add_at]
  exact h

set_option maxRecDepth 100000 in
set_option maxHeartbeats 1000000 in
theorem nown_walk (stem : ByteArray) (us : List ByteArray) (v : Value) (w : World) (hI : Inv w) (hv : StrsAt w.heap.size w v us) :
    Calls Tryd.prog 8 #[.string stem, v] w fun e w' => e = .returned (.bool true) ∧ Below w.heap.size w w' := by
  have hB : Below w.heap.size w w := Below.refl _ _
  obtain ⟨⟨p, cap, rfl, hc1, hc2, hc3, hcells⟩, hsz⟩ := hv
  have HV := Lib.hid (show StrsAt w.heap.size w (.slice p us.length cap) us from ⟨⟨p, cap, rfl, hc1, hc2, hc3, hcells⟩, hsz⟩)
  have HZ := Lib.hid hsz
  clear hcells hsz
  by_cases hlong : 200 < stem.size ∨ 300 < us.length
  · go_enter Tryd.func8, Tryd.ntmps8
    go_wp2_with fail
    refine (works_any hI hB).mono ?_
    rintro e w1 ⟨rfl, hb1⟩
    have hB1 := bstep hB hb1
    have hd : (decide (200 < (stem.size : Int)) || decide (300 < (us.length : Int))) = true := by
      rcases hlong with h | h
      · rw [show decide (200 < (stem.size : Int)) = true by simp; omega]; rfl
      · rw [show decide (300 < (us.length : Int)) = true by simp; omega]; simp
    go_wp2_with fail
    all_goals
      refine (works_any hI hB1).mono ?_
      rintro e w2 ⟨rfl, hb2⟩
      go_wp2
      go_ret
      exact ⟨rfl, bstep hB1 hb2⟩
  · have hs200 : stem.size ≤ 200 := by omega
    have hu : us.length ≤ 300 := by omega
    have hd1 : decide (200 < (stem.size : Int)) = false := by simp; omega
    have hd2 : decide (300 < (us.length : Int)) = false := by simp; omega
    clear hlong
    go_enter Tryd.func8, Tryd.ntmps8
    go_wp2_with fail
    refine (works_any hI hB).mono ?_
    rintro e w1 ⟨rfl, hb1⟩
    have hB1 := bstep hB hb1
    clear hb1
    go_wp2_with fail
    refine (free_any stem hs200 us (by omega) _ w.heap.size w1 hB1.size (HV.out.below hB1 (Nat.le_refl _)) hI hB1).mono ?_
    rintro e w2 ⟨r, ⟨rfl, hr⟩, hb2⟩
    have hB2 := bstep hB1 hb2
    clear hb2
    have hrz := hr.size hs200
    by_cases h0 : r.size = 0
    · have he : r.toList.isEmpty = true := empty_is (by simp [h0])
      have hz0 : stem.size ≤ maxLen := by unfold maxLen; omega
      cases hm : mayB stem with
      | false =>
        go_wp2_with (go_at_call 14; (with_reducible refine (may_is hz0 hm _).mono ?_); rintro e w' ⟨rfl, rfl⟩)
        all_goals
          go_ret
          exact ⟨rfl, hB2⟩
      | true =>
        by_cases h28 : 28 < stem.size
        · have hd3 : decide (28 < (stem.size : Int)) = true := by simp; omega
          go_wp2_with (go_at_call 14; (with_reducible refine (may_is hz0 hm _).mono ?_); rintro e w' ⟨rfl, rfl⟩)
          all_goals
            go_ret
            exact ⟨rfl, hB2⟩
        · have hd3 : decide (28 < (stem.size : Int)) = false := by simp; omega
          have hd4 : decide (3 < (us.length : Int)) = true := by
            simp
            by_cases h3 : us.length ≤ 3
            · have := hr.some hm (by omega) h3; omega
            · omega
          go_wp2_with (go_at_call 14; (with_reducible refine (may_is hz0 hm _).mono ?_); rintro e w' ⟨rfl, rfl⟩)
          all_goals
            go_ret
            exact ⟨rfl, hB2⟩
    · have he : r.toList.isEmpty = false := empty_is (by simp [h0])
      have h0 : 0 < r.size := by omega
      obtain ⟨hmr, hnot, hpre⟩ := hr.own h0
      have hvr := HV.out.below hB2 (Nat.le_refl _)
      have hvr' := Lib.hid hvr
      obtain ⟨⟨_, _, e1, _, _, _, hx⟩, _⟩ := hvr
      cases e1
      have HX := Lib.hid hx
      clear hx
      obtain ⟨hle, hxe⟩ := prefix_eq hpre
      have hrr : decide ((stem.size : Int) ≤ (r.size : Int)) = true := by simp; omega
      go_wp2_with fail
      go_loop [7, 6] (fun i h => h = .bool false ∧ ∃ j : Nat, j ≤ us.length ∧ i = .int .i64 j) (fun i _ => us.length - (intOf i).toNat)
      case atStart => exact ⟨rfl, 0, by omega, rfl⟩
      case round =>
        obtain ⟨rfl, j, hj, rfl⟩ := hrel
        by_cases hlt : j < us.length
        · have hd : decide ((j : Int) < (us.length : Int)) = true := by simp; omega
          obtain ⟨b, off, rfl, hbw, hc⟩ := HX.out j hlt
          have hne : decide (us[j] = r) = false := by
            rw [decide_eq_false_iff_not]
            intro e
            exact hnot (e ▸ List.getElem_mem hlt)
          have hse := str_eq hne
          clear hne
          go_wp2_with fail
          exact ⟨⟨rfl, j + 1, by omega, by go_num⟩, by simp [intOf]; omega⟩
        · have hd : decide ((j : Int) < (us.length : Int)) = false := by simp; omega
          obtain rfl : j = us.length := by omega
          obtain ⟨i0, hi, hz0, hz1, hz2⟩ := info_parts info_str
          clear hr hnot hpre hj
          cases p with
          | none =>
            obtain rfl : us = [] := List.length_eq_zero_iff.1 (by have := hc3 rfl; omega)
            have HR := Lib.hid (row_zero w2)
            clear hc3 HX
            go_wp2_with (at_builtin; refine wpList_append_own _ rfl _ _ 32 rfl w2.heap.size 9 i0 (.string ⟨#[]⟩) 1 16 Tryd.underlying32 hi hz0 hz1 hz2 rfl (by decide) (.slice (some ⟨w2.heap.size, 0, none⟩) 0 0) 0 [] rfl (HR.out.alloc _) ⟨w2.heap.size + 1, 0, none⟩ 1 1 [.string r] rfl rfl (by have h := cell_one_new (w2.alloc (.cells #[] 9)) (.string r) 9; rw [World.size_alloc] at h; exact h) (by intro u hu; simp at hu; subst hu; rfl) (by unfold maxLen; omega) (by omega) (by simp; omega) ?_; intro v4 w4 hown2 hgrow2 hnil2; have HS := Lib.hid (strs_more (us := []) hown2 HZ.out hrz); have hB4 : Below w2.heap.size w2 w4 := ((((Below.refl w2.heap.size w2).alloc (Nat.le_refl _) (.cells #[] 9)).alloc (by simp) (.cells #[.string r] 9)).grown hgrow2 (by simp; omega) (fun k e => by cases e; exact Nat.le_refl _)); clear hown2 hgrow2 hnil2)
            have hB4' := bstep hB2 hB4
            obtain ⟨⟨p5, cap5, e5, _⟩, _⟩ := HS.out
            refine (free_any stem hs200 ([] ++ [r]) (by simp) _ w4.heap.size w4 (Nat.le_refl _) HS.out hI hB4').mono ?_
            rintro e w5 ⟨r2, ⟨rfl, hr2⟩, hb5⟩
            have hB5 := bstep hB4' hb5
            have hne : (r2.toList == r.toList) = false := str_eq (by rw [decide_eq_false_iff_not]; exact hr2.other h0)
            clear hr2 HS
            go_wp2_with (go_at_call 14; (with_reducible refine (may_is hrz hmr _).mono ?_); rintro e w' ⟨rfl, rfl⟩)
            all_goals
              go_ret
              exact ⟨rfl, hB5⟩
          | some ad =>
            have hnews := Lib.hid fun j u hj => strs_news hvr'.out j u hj hB2.size
            have HR := Lib.hid (row_zero w2)
            have tok1 : True := trivial
            have tok2 : True := trivial
            clear hc3
            go_wp2_with (first
              | (at_builtin; have _t := tok1; refine wpList_append_own _ rfl _ _ 32 rfl w2.heap.size 9 i0 (.string ⟨#[]⟩) 1 16 Tryd.underlying32 hi hz0 hz1 hz2 rfl (by decide) _ 0 [] rfl HR.out ad us.length cap (us.map Value.string) rfl (by simp) hnews.out (by intro u hu; simp at hu; obtain ⟨x, _, rfl⟩ := hu; rfl) (by unfold maxLen; omega) (by omega) (by simp) ?_; intro v3 w3 hown hgrow hnil; rw [Nat.zero_add, List.nil_append] at hown; have HO := Lib.hid hown; have hB3 : Below w2.heap.size w2 w3 := (((Below.refl w2.heap.size w2).alloc (Nat.le_refl _) (.cells #[] 9)).grown hgrow (by simp) (fun k e => by cases e; simp)); clear hown hgrow hnil tok1)
              | (at_builtin; have _t := tok2; refine wpList_append_own _ rfl _ _ 32 rfl w2.heap.size 9 i0 (.string ⟨#[]⟩) 1 16 Tryd.underlying32 hi hz0 hz1 hz2 rfl (by decide) v3 us.length (us.map Value.string) rfl (HO.out.alloc _) ⟨w3.heap.size, 0, none⟩ 1 1 [.string r] rfl rfl (cell_one_new _ _ _) (by intro u hu; simp at hu; subst hu; rfl) (by unfold maxLen; omega) (by omega) (by have := hB3.size; simp; omega) ?_; intro v4 w4 hown2 hgrow2 hnil2; have HS := Lib.hid (strs_more hown2 HZ.out hrz); have hB4 : Below w2.heap.size w2 w4 := ((hB3.alloc hB3.size (.cells #[.string r] 9)).grown hgrow2 (by have := hB3.size; simp; omega) (fun k e => own_at HO.out k e)); clear hown2 hgrow2 hnil2 tok2))
            have hB4' := bstep hB2 hB4
            obtain ⟨⟨p5, cap5, e5, _⟩, _⟩ := HS.out
            refine (free_any stem hs200 (us ++ [r]) (by simp; omega) _ w4.heap.size w4 (Nat.le_refl _) HS.out hI hB4').mono ?_
            rintro e w5 ⟨r2, ⟨rfl, hr2⟩, hb5⟩
            have hB5 := bstep hB4' hb5
            have hne : (r2.toList == r.toList) = false := str_eq (by rw [decide_eq_false_iff_not]; exact hr2.other h0)
            clear hr2 HS
            go_wp2_with (go_at_call 14; (with_reducible refine (may_is hrz hmr _).mono ?_); rintro e w' ⟨rfl, rfl⟩)
            all_goals
              go_ret
              exact ⟨rfl, hB5⟩
end Go.Proofs.YtnonpolifipblaaDoor
