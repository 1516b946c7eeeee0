/- The document's own Same and Compare: for every set. -/
import Derived.Deep.QuietTactic
import Derived.BigQuiet
import Derived.Test.YtolhignlofonjaaDoorSetZ
import Derived.Test.YtolhignlofonjaaDoorSetC
namespace Go.Proofs.YtolhignlofonjaaDoor
open Go.RowKit Go.Shelf

def cmpT (a b : ByteArray) : Int := Lib.compareBytes a.data.toList b.data.toList

/-- What the two begin by alike may be left off. -/
theorem cmp_drop : ∀ (k : Nat) (l m : List UInt8), k ≤ l.length → k ≤ m.length → l.take k = m.take k → Lib.compareBytes l m = Lib.compareBytes (l.drop k) (m.drop k)
  | 0, _, _, _, _, _ => rfl
  | k + 1, [], _, h, _, _ => by simp at h
  | k + 1, _, [], _, h, _ => by simp at h
  | k + 1, a :: l, b :: m, h1, h2, h => by
    simp only [List.take_succ_cons, List.cons.injEq] at h
    obtain ⟨rfl, h⟩ := h
    have := cmp_drop k l m (by simpa using h1) (by simpa using h2) h
    rw [List.drop_succ_cons, List.drop_succ_cons, ← this]
    simp [Lib.compareBytes]

def alike (a b : ByteArray) (k : Nat) : Prop := a.data.toList.take k = b.data.toList.take k

theorem alike_next {a b : ByteArray} {k : Nat} (h : alike a b k) (ha : k < a.size) (hb : k < b.size) (e : a[k].toNat = b[k].toNat) : alike a b (k + 1) := by
  unfold alike at *
  rw [List.take_succ_eq_append_getElem (by simpa using ha), List.take_succ_eq_append_getElem (by simpa using hb), h]
  congr 2
  exact UInt8.toNat_inj.1 e

theorem cmp_lt {a b : ByteArray} {k : Nat} (h : alike a b k) (ha : k < a.size) (hb : k < b.size) (hl : a[k].toNat < b[k].toNat) : cmpT a b = -1 := by
  unfold cmpT
  have ea : a.data.toList.drop k = a.data.toList[k]'ha :: a.data.toList.drop (k + 1) := List.drop_eq_getElem_cons ha
  have eb : b.data.toList.drop k = b.data.toList[k]'hb :: b.data.toList.drop (k + 1) := List.drop_eq_getElem_cons hb
  rw [cmp_drop k _ _ (Nat.le_of_lt ha) (Nat.le_of_lt hb) h, ea, eb]
  have : a.data.toList[k]'ha < b.data.toList[k]'hb := UInt8.lt_iff_toNat_lt.2 hl
  rw [Lib.compareBytes, if_pos this]

theorem cmp_gt {a b : ByteArray} {k : Nat} (h : alike a b k) (ha : k < a.size) (hb : k < b.size) (hl : b[k].toNat < a[k].toNat) : cmpT a b = 1 := by
  unfold cmpT
  have ea : a.data.toList.drop k = a.data.toList[k]'ha :: a.data.toList.drop (k + 1) := List.drop_eq_getElem_cons ha
  have eb : b.data.toList.drop k = b.data.toList[k]'hb :: b.data.toList.drop (k + 1) := List.drop_eq_getElem_cons hb
  rw [cmp_drop k _ _ (Nat.le_of_lt ha) (Nat.le_of_lt hb) h, ea, eb]
  have h1 : b.data.toList[k]'hb < a.data.toList[k]'ha := UInt8.lt_iff_toNat_lt.2 hl
  have h2 : ¬ a.data.toList[k]'ha < b.data.toList[k]'hb := fun h => by
    have := UInt8.lt_iff_toNat_lt.1 h
    have hl : (b.data.toList[k]'hb).toNat < (a.data.toList[k]'ha).toNat := hl
    omega
  rw [Lib.compareBytes, if_neg h2, if_pos h1]

theorem cmp_end {a b : ByteArray} {k : Nat} (h : alike a b k) (ha : k ≤ a.size) (hb : k ≤ b.size) (he : a.size ≤ k ∨ b.size ≤ k) : (a.size < b.size → cmpT a b = -1) ∧ (b.size < a.size → cmpT a b = 1) ∧ (a.size = b.size → cmpT a b = 0) := by
  have hd : ∀ (c : ByteArray), c.size ≤ k → c.data.toList.drop k = [] := fun c h => List.drop_eq_nil_of_le h
  have hn : ∀ (c : ByteArray), k < c.size → ∃ x r, c.data.toList.drop k = x :: r := fun c h => ⟨_, _, List.drop_eq_getElem_cons (show k < c.data.toList.length from h)⟩
  unfold cmpT
  rw [cmp_drop k _ _ ha hb h]
  refine ⟨fun hl => ?_, fun hl => ?_, fun hl => ?_⟩
  · obtain ⟨x, r, e⟩ := hn b (by omega)
    rw [hd a (by omega), e]; simp [Lib.compareBytes]
  · obtain ⟨x, r, e⟩ := hn a (by omega)
    rw [hd b (by omega), e]; simp [Lib.compareBytes]
  · rw [hd a (by omega), hd b (by omega)]; simp [Lib.compareBytes]

theorem ret_int' {a b : Int} (h : a = b) : Ending.returned (.int .i64 a) = .returned (.int .i64 b) := by rw [h]


/-- A slice of runs, in blocks that lie below B. -/
def PairsAt (B : Nat) (W : World) (v : Value) (R : List (UInt8 × UInt8)) : Prop :=
  ∃ p cap, v = .slice p R.length cap ∧ ∀ (j : Nat) (h : j < R.length), ∃ g, p = some ⟨g, 0, none⟩ ∧ g < B ∧ W.cell? ⟨g, j * 2, none⟩ = some (.int .u8 R[j].1.toNat) ∧ W.cell? ⟨g, j * 2 + 1, none⟩ = some (.int .u8 R[j].2.toNat)

theorem PairsAt.below {B B' : Nat} {W W' : World} {v : Value} {R : List (UInt8 × UInt8)} (h : PairsAt B W v R) (hb : Below B' W W') (hB : B ≤ B') : PairsAt B W' v R := by
  obtain ⟨p, cap, h1, h2⟩ := h
  refine ⟨p, cap, h1, fun j hj => ?_⟩
  obtain ⟨g, e, hg, c1, c2⟩ := h2 j hj
  exact ⟨g, e, hg, (hb.cell (p := ⟨g, j * 2, none⟩) (by show g < B'; omega)).trans c1, (hb.cell (p := ⟨g, j * 2 + 1, none⟩) (by show g < B'; omega)).trans c2⟩

theorem pairs_of_row {base : Nat} {W : World} {v : Value} {R : List (UInt8 × UInt8)} (h : W.ownsRow base 37 2 v R.length (runsV R)) : PairsAt W.heap.size W v R := by
  have h' := h
  obtain ⟨h1, ⟨rfl, h0⟩ | ⟨g, cap, cur, rfl, hg, hh, hn, hc, _, _⟩⟩ := h
  · exact ⟨none, 0, by rw [h0], fun j hj => by omega⟩
  · refine ⟨some ⟨g, 0, none⟩, cap, rfl, fun j hj => ⟨g, rfl, (Array.getElem?_eq_some_iff.1 hh).1, ?_, ?_⟩⟩
    · rw [h'.cellAt _ (by omega)]
      exact (runsV_at R j R[j] (List.getElem?_eq_getElem hj)).1
    · rw [h'.cellAt _ (by omega)]
      exact (runsV_at R j R[j] (List.getElem?_eq_getElem hj)).2

set_option maxRecDepth 100000 in
set_option maxHeartbeats 2000000 in
theorem rsame_any (R : List (UInt8 × UInt8)) (hR : R.length ≤ 256) (u v : Value) (B : Nat) (W : World) (hB : B ≤ W.heap.size) (hu : PairsAt B W u R) (hv : PairsAt B W v R) :
    Calls Tryd.prog 19 #[u, v] W fun e W' => e = .returned (.bool true) ∧ Below W.heap.size W W' := by
  obtain ⟨p, cap, rfl, hx⟩ := hu
  obtain ⟨p', cap', rfl, hy⟩ := hv
  have HX := Lib.hid hx
  have HY := Lib.hid hy
  clear hx hy
  go_enter Tryd.func19, Tryd.ntmps19
  go_wp2_with fail
  go_loopw [5] (fun i wr => ∃ k : Nat, k ≤ R.length ∧ i = .int .i64 k ∧ Below W.heap.size W wr) (fun i _ => R.length - (intOf i).toNat)
  case atStart => exact ⟨0, by omega, rfl, Below.refl _ _⟩
  case round =>
    obtain ⟨k, hk, rfl, hbr⟩ := hrel
    by_cases hlt : k < R.length
    · have hd : decide ((k : Int) < (R.length : Int)) = true := by simp; omega
      obtain ⟨g, rfl, hg, c1, c2⟩ := HX.out k hlt
      obtain ⟨g', rfl, hg', c1', c2'⟩ := HY.out k hlt
      have d1 := (hbr.cell (p := ⟨g, k * 2, none⟩) (by show g < W.heap.size; omega)).trans c1
      have d2 := (hbr.cell (p := ⟨g, k * 2 + 1, none⟩) (by show g < W.heap.size; omega)).trans c2
      have d3 := (hbr.cell (p := ⟨g', k * 2, none⟩) (by show g' < W.heap.size; omega)).trans c1'
      have d4 := (hbr.cell (p := ⟨g', k * 2 + 1, none⟩) (by show g' < W.heap.size; omega)).trans c2'
      clear c1 c2 c1' c2'
      have hin : (k : Int) < (R.length : Int) := by omega
      go_wp2_with fail
      go_quiet (fail)
      generalize hwq : World.drewN _ _ = wq
      have hbq : Below W.heap.size W wq := by rw [← hwq]; exact ⟨hbr.os, hbr.tape, hbr.output, hbr.size, hbr.block⟩
      go_wp2_with fail
      go_roundw
      case rel => exact ⟨k + 1, by omega, by go_num, hbq⟩
      case measure => first | (simp [intOf]; done) | (simp [intOf]; omega)
    · have hd : decide ((k : Int) < (R.length : Int)) = false := by simp; omega
      obtain rfl : k = R.length := by omega
      go_wp2_with fail
      go_ret
      exact ⟨rfl, hbr⟩

set_option maxRecDepth 100000 in
set_option maxHeartbeats 2000000 in
theorem rcompare_any (x y : S4) (hx : x.ok) (hy : y.ok) (w : World) :
    Calls Tryd.prog 34 #[x.v, y.v] w fun e w' => e = .returned (.int .i64 (cmpS x y)) ∧ Below w.heap.size w w' := by
  have hcs : cmpS x y = cmpT ⟨(lstB x).toArray⟩ ⟨(lstB y).toArray⟩ := by unfold cmpS cmpT; simp
  rw [hcs]
  clear hcs
  have hla : ByteArray.size ⟨(lstB x).toArray⟩ ≤ 256 := by rw [lstB_size]; exact lst_le x
  have ha1 : ∀ w, Calls Tryd.prog 17 #[x.v] w fun e w' => e = .returned (.string ⟨(lstB x).toArray⟩) ∧ Below w.heap.size w w' := fun w => rlist_any x hx w
  have hb1 : ∀ w, Calls Tryd.prog 17 #[y.v] w fun e w' => e = .returned (.string ⟨(lstB y).toArray⟩) ∧ Below w.heap.size w w' := fun w => rlist_any y hy w
  obtain ⟨a, haa⟩ : ∃ a : ByteArray, a = ⟨(lstB x).toArray⟩ := ⟨_, rfl⟩
  obtain ⟨b, hbb⟩ : ∃ b : ByteArray, b = ⟨(lstB y).toArray⟩ := ⟨_, rfl⟩
  rw [← haa] at ha1 hla ⊢
  rw [← hbb] at hb1 ⊢
  clear haa hbb
  have ha : a.size ≤ 9223372036854775807 := by omega
  have hB0 : Below w.heap.size w ((w.alloc (.cells #[.int .u64 x.a, .int .u64 x.b, .int .u64 x.c, .int .u64 x.d] 24)).alloc (.cells #[.int .u64 y.a, .int .u64 y.b, .int .u64 y.c, .int .u64 y.d] 24)) := ((Below.refl _ w).alloc (Nat.le_refl _) _).alloc (by simp) _
  have hHB := Lib.hid hB0
  clear hB0
  go_enter Tryd.func34, Tryd.ntmps34
  go_wp2_with fail
  go_region_held3 (fun w' => w'.cell? ⟨w.heap.size, 0, none⟩ = some (.int .u64 x.a) ∧ w'.cell? ⟨w.heap.size, 1, none⟩ = some (.int .u64 x.b) ∧ w'.cell? ⟨w.heap.size, 2, none⟩ = some (.int .u64 x.c) ∧ w'.cell? ⟨w.heap.size, 3, none⟩ = some (.int .u64 x.d) ∧ w'.cell? ⟨w.heap.size + 1, 0, none⟩ = some (.int .u64 y.a) ∧ w'.cell? ⟨w.heap.size + 1, 1, none⟩ = some (.int .u64 y.b) ∧ w'.cell? ⟨w.heap.size + 1, 2, none⟩ = some (.int .u64 y.c) ∧ w'.cell? ⟨w.heap.size + 1, 3, none⟩ = some (.int .u64 y.d))
    (first
      | go_keep
      | (go_split_ands
         refine ⟨?_, ?_, ?_, ?_, ?_, ?_, ?_, ?_⟩
         all_goals (rw [hcc _ _ (by omega)]; first | assumption | (simp; done))))
    (first
      | (go_at_call 17; (with_reducible refine (ha1 _).mono ?_); rintro e w1 ⟨rfl, hb⟩; obtain ⟨hL, hcc⟩ := keepN (n := w.heap.size + 2) hb (by first | exact hL | (simp; done)); have hBB := Lib.hid (bstep (by first | exact hBB.out | exact hHB.out | exact (hHB.out).drew) hb))
      | (go_at_call 17; (with_reducible refine (hb1 _).mono ?_); rintro e w1 ⟨rfl, hb⟩; obtain ⟨hL, hcc⟩ := keepN (n := w.heap.size + 2) hb (by first | exact hL | (simp; done)); have hBB := Lib.hid (bstep (by first | exact hBB.out | exact hHB.out | exact (hHB.out).drew) hb)))
  all_goals
    have hbel : ∀ n, Below w.heap.size w (w1.drewN n) := fun n => bstep hBB.out ⟨rfl, rfl, rfl, Nat.le_refl _, fun _ _ => rfl⟩
    clear hHB hb hL hcc hBB ha1 hb1
    go_wp2_with fail
    go_loopw [7] (fun i wr => ∃ k n : Nat, k ≤ a.size ∧ k ≤ b.size ∧ i = .int .i64 k ∧ alike a b k ∧ wr = w1.drewN n) (fun i _ => a.size - (intOf i).toNat)
    case atStart => exact ⟨0, 0, Nat.zero_le _, Nat.zero_le _, rfl, rfl, rfl⟩
    case round =>
      obtain ⟨k, n, hka, hkb, rfl, hal, rfl⟩ := hrel
      by_cases h1 : k < a.size
      · by_cases h2 : k < b.size
        · by_cases h3 : a[k].toNat < b[k].toNat
          · have hres := Lib.hid (cmp_lt hal h1 h2 h3)
            go_wp2
            go_quiet (fail)
            go_wp2
            go_ret
            exact ⟨ret_int' hres.out.symm, (by first | exact hbel _ | (rw [World.drewN_drewN]; exact hbel _) | (rw [World.drewN_drewN, World.drewN_drewN]; exact hbel _))⟩
          · by_cases h4 : b[k].toNat < a[k].toNat
            · have hres := Lib.hid (cmp_gt hal h1 h2 h4)
              have h3 : b[k].toNat ≤ a[k].toNat := by omega
              go_wp2
              go_quiet (fail)
              go_wp2
              go_quiet (fail)
              go_wp2
              go_ret
              exact ⟨ret_int' hres.out.symm, (by first | exact hbel _ | (rw [World.drewN_drewN]; exact hbel _) | (rw [World.drewN_drewN, World.drewN_drewN]; exact hbel _))⟩
            · have hnx := Lib.hid (alike_next hal h1 h2 (by omega))
              have h3 : b[k].toNat ≤ a[k].toNat := by omega
              have h4 : a[k].toNat ≤ b[k].toNat := by omega
              go_wp2
              go_quiet (fail)
              go_wp2
              go_quiet (fail)
              go_wp2
              go_roundw
              case rel => exact ⟨k + 1, _, by omega, by omega, by go_num, hnx.out, by first | rfl | rw [World.drewN_drewN, World.drewN_drewN]⟩
              case measure => simp [intOf]; omega
        · have h2 : b.size ≤ k := by omega
          obtain ⟨e1, e2, e3⟩ := cmp_end hal hka hkb (.inr h2)
          have E2 := Lib.hid e2
          have E3 := Lib.hid e3
          clear e1 e2 e3
          go_wp2
          go_ret
          exact ⟨ret_int' (E2.out (by omega)).symm, (by first | exact hbel _ | (rw [World.drewN_drewN]; exact hbel _) | (rw [World.drewN_drewN, World.drewN_drewN]; exact hbel _))⟩
      · have h1 : a.size ≤ k := by omega
        obtain ⟨e1, e2, e3⟩ := cmp_end hal hka hkb (.inl h1)
        have E1 := Lib.hid e1
        have E2 := Lib.hid e2
        have E3 := Lib.hid e3
        clear e1 e2 e3
        rcases Nat.lt_trichotomy a.size b.size with h5 | h5 | h5
        · go_wp2
          go_ret
          exact ⟨ret_int' (E1.out h5).symm, (by first | exact hbel _ | (rw [World.drewN_drewN]; exact hbel _) | (rw [World.drewN_drewN, World.drewN_drewN]; exact hbel _))⟩
        · have h6 : a.size ≤ b.size := by omega
          have h7 : b.size ≤ a.size := by omega
          go_wp2
          all_goals
            go_ret
            exact ⟨ret_int' (E3.out h5).symm, (by first | exact hbel _ | (rw [World.drewN_drewN]; exact hbel _) | (rw [World.drewN_drewN, World.drewN_drewN]; exact hbel _))⟩
        · omega
end Go.Proofs.YtolhignlofonjaaDoor
