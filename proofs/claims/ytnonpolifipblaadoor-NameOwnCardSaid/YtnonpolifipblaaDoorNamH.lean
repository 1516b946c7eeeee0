/- name.Free: for every stem of 200 bytes at most, and whatever texts are used. -/
import Derived.Test.YtnonpolifipblaaDoorNamG
namespace Go.Proofs.YtnonpolifipblaaDoor
open Go.RowKit Go.Shelf

attribute [local go_sem] Oper.semAt_some

/-- A slice of texts, in blocks that lie below B. -/
def StrsAt (B : Nat) (W : World) (v : Value) (us : List ByteArray) : Prop :=
  (∃ p cap, v = .slice p us.length cap ∧ us.length ≤ cap ∧ cap ≤ maxLen ∧ (p = none → cap = 0) ∧ ∀ (i : Nat) (h : i < us.length), ∃ b off, p = some ⟨b, off, none⟩ ∧ b < B ∧ W.cell? ⟨b, off + i, none⟩ = some (.string us[i])) ∧
    ∀ s ∈ us, s.size ≤ maxLen

theorem StrsAt.below {B B' : Nat} {W W' : World} {v : Value} {us : List ByteArray} (h : StrsAt B W v us) (hb : Below B' W W') (hB : B ≤ B') : StrsAt B W' v us := by
  obtain ⟨⟨p, cap, h1, h2, h3, h4, h5⟩, h6⟩ := h
  refine ⟨⟨p, cap, h1, h2, h3, h4, fun i hi => ?_⟩, h6⟩
  obtain ⟨b, off, e, hb', hc⟩ := h5 i hi
  exact ⟨b, off, e, hb', (hb.cell (p := ⟨b, off + i, none⟩) (by show b < B'; omega)).trans hc⟩

/-- How often a text stands there. -/
def cntB (us : List ByteArray) (x : ByteArray) : Nat := us.countP fun y => decide (y = x)
def Counts {H : Type} (us : List ByteArray) (D : DataW H) : Prop := ∀ x : ByteArray, D.atKey (.string x.data.toList) (.lit (.int .i64 0)) = .lit (.int .i64 (cntB us x : Nat))

theorem cntB_le (us : List ByteArray) (x : ByteArray) : cntB us x ≤ us.length := List.countP_le_length
theorem cntB_zero {us : List ByteArray} {x : ByteArray} : cntB us x = 0 ↔ x ∉ us := by
  unfold cntB
  rw [List.countP_eq_zero]
  constructor
  · intro h hx
    exact h x hx (by simp)
  · intro h y hy
    simp only [decide_eq_true_eq]
    rintro rfl
    exact h hy

theorem bytes_ext {a b : ByteArray} (h : a.data.toList = b.data.toList) : a = b := by
  cases a; cases b
  simp only at h
  congr 1
  exact Array.toList_inj.1 h

theorem Counts.next {H : Type} {us : List ByteArray} {D : DataW H} (hD : Maps.IsMap D) (h : Counts us D) (x : ByteArray) (hk : WideAt.IsKeyLit (.string x.data.toList)) (c : Int) (hc : D.atKey (.string x.data.toList) (.lit (.int .i64 0)) = .lit (.int .i64 c)) :
    Counts (us ++ [x]) (D.put (.string x.data.toList) (.lit (.int .i64 (c + 1)))) := by
  intro y
  unfold cntB
  rw [List.countP_append]
  by_cases e : y = x
  · subst e
    rw [Maps.atKey_put_same hD hk]
    have := h y
    rw [hc] at this
    simp only [DataW.lit.injEq, Lit.int.injEq, true_and] at this
    rw [this]
    unfold cntB
    simp
  · rw [Maps.atKey_put_other (by intro e'; exact e (bytes_ext (by simpa using e'))), h y]
    have : List.countP (fun z => decide (z = y)) [x] = 0 := by
      rw [List.countP_eq_zero]
      intro z hz
      simp only [List.mem_singleton] at hz
      subst hz
      simp [Ne.symm e]
    rw [this]
    rfl

theorem Counts.zero {H : Type} {us : List ByteArray} {D : DataW H} (h : Counts us D) {x : ByteArray} {c : Int} (hc : D.atKey (.string x.data.toList) (.lit (.int .i64 0)) = .lit (.int .i64 c)) : c = (cntB us x : Nat) := by
  have := h x
  rw [hc] at this
  simpa using this

set_option maxRecDepth 100000 in
set_option maxHeartbeats 2000000 in
theorem free_in (stem : ByteArray) (hs : stem.size ≤ 200) (us : List ByteArray) (hu : us.length ≤ 301) (v : Value) (B : Nat) (W : World) (hB : B ≤ W.heap.size) (hv : StrsAt B W v us) {W0 : World} (hI : Inv W0) (hb : Below W0.heap.size W0 W) :
    CallsIn Fence.wide 4 Tryd.prog 22 #[.string stem, v] W fun e W' => ∃ r, (e = .returned (.string r) ∧ IsFree stem us r) ∧ Below W.heap.size W W' := by
  obtain ⟨⟨p, cap, rfl, _, _, _, hcells⟩, hsz⟩ := hv
  have hro : Fence.wide.round = none := rfl
  have hmm := @run_makeMap Tryd.prog
  refine callsIn_of_wp_marks Tryd.func22 rfl trivial ?_ hro
  simp only [Tryd.ntmps22, List.size_toArray, List.length_cons, List.length_nil, Nat.reduceAdd, Nat.reduceSub, Array.replicate_succ, Array.replicate_zero, List.push_toArray, List.append_toArray, List.nil_append, List.cons_append]
  gi_wp2_with fail
  have hm0 := World.ownsMap_made (W.alloc (.cells #[.string ⟨#[]⟩] 9)) Tryd.prog 9 (plainElem (H := Unit) Tryd.prog 3)
  rw [World.size_alloc] at hm0
  have bR := ((Boxed.new W 9 (.string ⟨#[]⟩)).alloc (.map #[] 0)).alloc (.cells #[.map (some (W.heap.size + 1))] 39)
  have bT := Boxed.new ((W.alloc (.cells #[.string ⟨#[]⟩] 9)).alloc (.map #[] 0)) 39 (.map (some (W.heap.size + 1)))
  simp only [World.size_alloc] at bT
  have hB0 : Below W.heap.size W (((W.alloc (.cells #[.string ⟨#[]⟩] 9)).alloc (.map #[] 0)).alloc (.cells #[.map (some (W.heap.size + 1))] 39)) := (((Below.refl _ W).alloc (Nat.le_refl _) _).alloc (by simp) _).alloc (by simp; omega) _
  have hm1 := hm0.alloc (.cells #[.map (some (W.heap.size + 1))] 39)
  obtain ⟨W1, hW1⟩ : ∃ W1, (((W.alloc (.cells #[.string ⟨#[]⟩] 9)).alloc (.map #[] 0)).alloc (.cells #[.map (some (W.heap.size + 1))] 39)) = W1 := ⟨_, rfl⟩
  have hs1 : W1.heap.size = W.heap.size + 3 := by rw [← hW1]; simp
  rw [hW1] at hB0 hm1 bR bT ⊢
  gi_loopw [12] (fun i wr => ∃ k : Nat, k ≤ us.length ∧ i = .int .i64 k ∧ ∃ D : DataW Unit, wr.ownsMap Tryd.prog 9 (plainElem Tryd.prog 3) (W.heap.size + 1) k D ∧ Counts (us.take k) D ∧
      wr.cell? ⟨W.heap.size + 1 + 1, 0, none⟩ = some (.map (some (W.heap.size + 1))) ∧ wr.cell? ⟨W.heap.size, 0, none⟩ = some (.string ⟨#[]⟩) ∧ wr.frozen? ⟨W.heap.size, 0, none⟩ = false ∧ Below W.heap.size W wr ∧ W1.heap.size ≤ wr.heap.size)
    (fun i _ => us.length - (intOf i).toNat)
  case atStart => exact ⟨0, by omega, rfl, _, hm1, fun x => rfl, bT.cell, bR.cell, bR.frozen, hB0, Nat.le_refl _⟩
  case round =>
    obtain ⟨k, hk, rfl, D, hown, hcnt, hcT, hcR, hfR, hBr, hsr⟩ := hrel
    by_cases hlt : k < us.length
    · obtain ⟨b, off, rfl, hbB, hc0⟩ := hcells k hlt
      have hc := (hBr.cell (p := ⟨b, off + k, none⟩) (by show b < W.heap.size; omega)).trans hc0
      have hdk : decide ((k : Int) < (us.length : Int)) = true := by simp; omega
      have hxs := hsz us[k] (List.getElem_mem hlt)
      have hkey := WideMaps.keyOf_string_mk (P := Tryd.prog) Tryd.underlying9 hxs
      gi_wp2_with (first
        | (gi_at_lookup; refine wpListIn_lookup_own_int _ rfl _ _ 39 rfl 9 3 .i64 (Maps.string_keyed Tryd.underlying9) Tryd.underlying39 Tryd.underlying3 (Tryd.zeroValue3 _) (W.heap.size + 1) k _ rfl hown _ _ rfl hkey ?_; intro c hat hwc)
        | (gi_at_mapUpdate; refine wpListIn_mapUpdate_own _ rfl _ _ _ 39 rfl 9 3 (Maps.string_keyed Tryd.underlying9) Tryd.underlying39 _ (W.heap.size + 1) k _ rfl hown (by omega) _ _ _ rfl rfl hkey _ [] (plainElem_int Tryd.underlying3 (wrap64_wf _)) ?_; intro w1 hown1 hgrow1))
      have hcz := hcnt.zero hat
      have hle := cntB_le (us.take k) us[k]
      have hlk := List.length_take_le k us
      have hwr : wrap64 (c + 1) = c + 1 := by unfold wrap64; omega
      obtain ⟨es, ck, hh, _, _, hDm⟩ := hown
      go_roundw
      case rel =>
        refine ⟨k + 1, by omega, by go_num, _, hown1, ?_, cell_kept hcT hgrow1 (fun r e => by cases e; exact ⟨_, hh, rfl⟩), cell_kept hcR hgrow1 (fun r e => by cases e; exact ⟨_, hh, rfl⟩), (frozen_kept hcR hgrow1 (fun r e => by cases e; exact ⟨_, hh, rfl⟩)).trans hfR,
          hBr.grown hgrow1 hBr.size (fun j e => by cases e; omega), Nat.le_trans hsr hgrow1.size⟩
        rw [hwr, List.take_succ_eq_append_getElem hlt]
        exact hcnt.next ⟨_, hDm⟩ us[k] trivial c hat
      case measure => simp [intOf]; omega
    · have hdk : decide ((k : Int) < (us.length : Int)) = false := by simp; omega
      obtain rfl : k = us.length := by omega
      rw [List.take_length] at hcnt
      gi_wp2_with fail
      refine ⟨trivial, (tries_in 3 stem _).mono ?_⟩
      rintro e w' ⟨rfl, rfl⟩
      gi_wp2_with fail
      have hnew : (wr.alloc (.cells #[.string stem] 9)).cell? ⟨wr.heap.size, 0, none⟩ = some (.string stem) := (Boxed.new wr 9 (.string stem)).cell
      obtain ⟨W2, hW2⟩ : ∃ W2, wr.alloc (.cells #[.string stem] 9) = W2 := ⟨_, rfl⟩
      have hs2 : W2.heap.size = wr.heap.size + 1 := by rw [← hW2]; simp
      have hcT2 : W2.cell? ⟨W.heap.size + 1 + 1, 0, none⟩ = some (.map (some (W.heap.size + 1))) := by rw [← hW2]; exact cell_kept hcT (World.grownBy_alloc wr _ none) (fun r e => by cases e)
      have hcR2 : W2.cell? ⟨W.heap.size, 0, none⟩ = some (.string ⟨#[]⟩) := by rw [← hW2]; exact cell_kept hcR (World.grownBy_alloc wr _ none) (fun r e => by cases e)
      have hfR2 : W2.frozen? ⟨W.heap.size, 0, none⟩ = false := by rw [← hW2]; exact (frozen_kept hcR (World.grownBy_alloc wr _ none) (fun r e => by cases e)).trans hfR
      have hown2 : W2.ownsMap Tryd.prog 9 (plainElem (H := Unit) Tryd.prog 3) (W.heap.size + 1) us.length D := by rw [← hW2]; exact hown.alloc _
      have hB2 : Below W.heap.size W W2 := by rw [← hW2]; exact hBr.alloc hBr.size _
      rw [hW2] at hnew ⊢
      clear hown hcT hcR hfR
      refine wpIn_rangeFunc_ownG hro (by omega) (gf := 31) (lb := #[.pointer (some ⟨wr.heap.size, 0, none⟩)]) rfl trivial (enters_of Tryd.func31 (by kernel_rfl) rfl)
        (tries_stops 3 (by omega) wr.heap.size W2.heap.size stem hs hI W2 (by omega) (Nat.le_refl _) (by have := hb.size; omega) hnew (hb.trans (hB2.mono hb.size))) belowK_t (belowK_b (Nat.le_refl _)) (Below.refl _ _) (fun _ => rfl)
        (fun pre w => (∀ x : Txt, x ∈ pre → x.1 ∈ us) ∧ (w.cell? ⟨W.heap.size + 1 + 1, 0, none⟩ = some (.map (some (W.heap.size + 1))) ∧ w.cell? ⟨W.heap.size, 0, none⟩ = some (.string ⟨#[]⟩) ∧ w.frozen? ⟨W.heap.size, 0, none⟩ = false ∧
          w.ownsMap Tryd.prog 9 (plainElem (H := Unit) Tryd.prog 3) (W.heap.size + 1) us.length D) ∧ Below W.heap.size W w)
        (fun c pre w => (c = .ret ∧ ∃ (q : List Txt) (x : Txt), pre = q ++ [x] ∧ (∀ y : Txt, y ∈ q → y.1 ∈ us) ∧ x.1 ∉ us ∧ w.cell? ⟨W.heap.size, 0, none⟩ = some (.string x.1)) ∧ Below W.heap.size W w)
        (fun s A C row hs' hg hr => ⟨hs'.1, ⟨cell_kept hs'.2.1.1 hg (fun r e => (hr r e).2), cell_kept hs'.2.1.2.1 hg (fun r e => (hr r e).2), (frozen_kept hs'.2.1.2.1 hg (fun r e => (hr r e).2)).trans hs'.2.1.2.2.1, hs'.2.1.2.2.2.kept hg (fun e => by have := (hr _ e.symm).1; omega)⟩,
          hs'.2.2.grown hg hs'.2.2.size (fun r e => by have := (hr r e).1; omega)⟩)
        (fun c s A C row hs' hg hr => ⟨⟨hs'.1.1, by obtain ⟨q, x, h1, h2, h3, h4⟩ := hs'.1.2; exact ⟨q, x, h1, h2, h3, cell_kept h4 hg (fun r e => (hr r e).2)⟩⟩, hs'.2.grown hg hs'.2.size (fun r e => by have := (hr r e).1; omega)⟩)
        ⟨fun _ h => by simp at h, ⟨hcT2, hcR2, hfR2, hown2⟩, hB2⟩
        (fun x : Txt => { tmps := #[.string stem, .slice p us.length cap, undef, undef, .pointer (some ⟨W.heap.size, 0, none⟩), .pointer (some ⟨W.heap.size + 1 + 1, 0, none⟩), undef, u7, .string x.1, .map (some (W.heap.size + 1)), .slice p us.length cap, .int .i64 us.length, .int .i64 us.length, .bool false, u14, u15, u16, u17, u18, u19, u20, .string stem, .func (.func 31) #[] #[.pointer (some ⟨wr.heap.size, 0, none⟩)], .string x.1, undef, undef, undef, undef, undef], defers := [] }) ?assign ?body ?done ?stop
      case assign =>
        intro l x w K hK
        gi_wp2
        exact hK
      case body =>
        rintro l pre ⟨x, hx⟩ w ⟨hpre, ⟨hcT, hcR, hfR, hown⟩, hBw⟩ hlt2
        have hkey := WideMaps.keyOf_string_mk (P := Tryd.prog) Tryd.underlying9 hx
        by_cases hin : x ∈ us
        · gi_wp2_with (gi_at_lookup; refine wpListIn_lookup_own_int _ rfl _ _ 39 rfl 9 3 .i64 (Maps.string_keyed Tryd.underlying9) Tryd.underlying39 Tryd.underlying3 (Tryd.zeroValue3 _) (W.heap.size + 1) us.length _ rfl hown _ _ rfl hkey ?_; intro c hat hwc; have hcz : (c == 0) = false := (by have h1 := hcnt.zero hat; have h2 : cntB us x ≠ 0 := (fun e => cntB_zero.1 e hin); simp; omega))
          exact ⟨KeepsFrom.refl _ _, Below.refl _ _, fun y hy => by
            rcases List.mem_append.1 hy with hy | hy
            · exact hpre y hy
            · obtain rfl : y = ⟨x, hx⟩ := by simpa using hy
              exact hin, ⟨hcT, hcR, hfR, hown⟩, hBw⟩
        · gi_wp2_with (gi_at_lookup; refine wpListIn_lookup_own_int _ rfl _ _ 39 rfl 9 3 .i64 (Maps.string_keyed Tryd.underlying9) Tryd.underlying39 Tryd.underlying3 (Tryd.zeroValue3 _) (W.heap.size + 1) us.length _ rfl hown _ _ rfl hkey ?_; intro c hat hwc; obtain rfl : c = 0 := (by have h1 := hcnt.zero hat; have h2 : cntB us x = 0 := cntB_zero.2 hin; omega))
          exact ⟨(KeepsOthers.setCell _ _ _).from _, ⟨⟨rfl, pre, ⟨x, hx⟩, rfl, hpre, hin, World.cell?_setCell_same' _ _ _ (by rw [hcR]; rfl)⟩, hBw.setCell (p := ⟨W.heap.size, 0, none⟩) (Nat.le_refl _) _⟩⟩
      case done =>
        rintro D2 ys w hD ⟨k, hk63, rfl, hTo, hno⟩ ⟨hpre, ⟨hcT, hcR, hfR, hown⟩, hBw⟩ hK
        gi_wp2
        have hK' := (KeepsOthers.setCell w ⟨W.heap.size, 0, none⟩ (.string ⟨#[]⟩)).same D2 _ hK rfl
        refine ⟨by simp, .inl ⟨_, _, rfl, run_takeDeferred hK', ?_⟩⟩
        have hc5 := cell_kept (World.cell?_setCell_same' w ⟨W.heap.size, 0, none⟩ (.string ⟨#[]⟩) (by rw [hcR]; rfl)) (grownBy_putObj' _ D2 (.deferred none)) (fun r e => by cases e; exact ⟨_, hK', rfl⟩)
        have hh : Had stem us k := fun j hj => ⟨hTo j hj, hpre ⟨tryB stem j, try_size hs j⟩ (by unfold triesL; exact List.mem_map.2 ⟨j, List.mem_range.2 hj, rfl⟩)⟩
        refine ⟨.string ⟨#[]⟩, ?_, _, ⟨rfl, k, hh.le (by omega), hh, .inl ⟨hno, rfl⟩⟩, ?_⟩
        · simp [results, Tryd.f22, go_sem, hc5]
        · exact (hBw.setCell (p := ⟨W.heap.size, 0, none⟩) (Nat.le_refl _) _).trans (belowK_b (w := W) (Nat.le_refl _) _ D2 _ _ (by have := hB2.size; omega) hK' rfl rfl)
      case stop =>
        rintro D2 c pre w hD ⟨k, hk63, rfl, hTo⟩ ⟨⟨rfl, q, x, hq, hqs, hxn, hcR⟩, hBw⟩ hK
        gi_wp2
        rw [triesL_succ] at hq
        obtain ⟨hq1, hq2⟩ := List.append_inj' hq rfl
        obtain rfl : (⟨tryB stem k, try_size hs k⟩ : Txt) = x := by simpa using hq2
        refine ⟨by simp, .inl ⟨_, _, rfl, run_takeDeferred hK, ?_⟩⟩
        have hc5 := cell_kept hcR (grownBy_putObj' _ D2 (.deferred none)) (fun r e => by cases e; exact ⟨_, hK, rfl⟩)
        have hh : Had stem us k := fun j hj => ⟨hTo j (by omega), hqs ⟨tryB stem j, try_size hs j⟩ (by rw [← hq1]; unfold triesL; exact List.mem_map.2 ⟨j, List.mem_range.2 hj, rfl⟩)⟩
        refine ⟨.string (tryB stem k), ?_, _, ⟨rfl, k, hh.le (by omega), hh, .inr ⟨hTo k (by omega), hxn, rfl⟩⟩, ?_⟩
        · simp [results, Tryd.f22, go_sem, hc5]
        · exact hBw.trans (belowK_b (w := W) (Nat.le_refl _) _ D2 _ _ (by have := hB2.size; omega) hK rfl rfl)

/-- name.Free, outside a fence. -/
theorem free_any (stem : ByteArray) (hs : stem.size ≤ 200) (us : List ByteArray) (hu : us.length ≤ 301) (v : Value) (B : Nat) (W : World) (hB : B ≤ W.heap.size) (hv : StrsAt B W v us) {W0 : World} (hI : Inv W0) (hb : Below W0.heap.size W0 W) :
    Calls Tryd.prog 22 #[.string stem, v] W fun e W' => ∃ r, (e = .returned (.string r) ∧ IsFree stem us r) ∧ Below W.heap.size W W' :=
  callsIn_wide.1 (free_in stem hs us hu v B W hB hv hI hb)
end Go.Proofs.YtnonpolifipblaaDoor
