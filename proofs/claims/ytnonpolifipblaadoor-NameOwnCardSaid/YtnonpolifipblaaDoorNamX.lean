/- The document's own Compare: for every two texts. -/
import Derived.Test.YtnonpolifipblaaDoorNamV
namespace Go.Proofs.YtnonpolifipblaaDoor
open Go.RowKit Go.Shelf

/-- What the two begin by alike may be left off. -/
theorem cmp_drop : ∀ (k : Nat) (l m : List UInt8), k ≤ l.length → k ≤ m.length → l.take k = m.take k → Lib.compareBytes l m = Lib.compareBytes (l.drop k) (m.drop k)
  | 0, _, _, _, _, _ => rfl
  | k + 1, [], _, h, _, _ => by simp at h
  | k + 1, _, [], _, h, _ => by simp at h
  | k + 1, a :: l, b :: m, h1, h2, h => by
    simp only [List.take_succ_cons, List.cons.injEq] at h
    obtain ⟨rfl, h⟩ := h
    have := cmp_drop k l m (by simpa using h1) (by simpa using h2) h
    rw [List.drop_succ_cons, List.drop_succ_cons, ← this]
    simp [Lib.compareBytes]

def alike (a b : ByteArray) (k : Nat) : Prop := a.data.toList.take k = b.data.toList.take k

theorem alike_next {a b : ByteArray} {k : Nat} (h : alike a b k) (ha : k < a.size) (hb : k < b.size) (e : a[k].toNat = b[k].toNat) : alike a b (k + 1) := by
  unfold alike at *
  rw [List.take_succ_eq_append_getElem (by simpa using ha), List.take_succ_eq_append_getElem (by simpa using hb), h]
  congr 2
  exact UInt8.toNat_inj.1 e

theorem cmp_lt {a b : ByteArray} {k : Nat} (h : alike a b k) (ha : k < a.size) (hb : k < b.size) (hl : a[k].toNat < b[k].toNat) : cmpB a b = -1 := by
  unfold cmpB
  have ea : a.data.toList.drop k = a.data.toList[k]'ha :: a.data.toList.drop (k + 1) := List.drop_eq_getElem_cons ha
  have eb : b.data.toList.drop k = b.data.toList[k]'hb :: b.data.toList.drop (k + 1) := List.drop_eq_getElem_cons hb
  rw [cmp_drop k _ _ (Nat.le_of_lt ha) (Nat.le_of_lt hb) h, ea, eb]
  have : a.data.toList[k]'ha < b.data.toList[k]'hb := UInt8.lt_iff_toNat_lt.2 hl
  rw [Lib.compareBytes, if_pos this]

theorem cmp_gt {a b : ByteArray} {k : Nat} (h : alike a b k) (ha : k < a.size) (hb : k < b.size) (hl : b[k].toNat < a[k].toNat) : cmpB a b = 1 := by
  unfold cmpB
  have ea : a.data.toList.drop k = a.data.toList[k]'ha :: a.data.toList.drop (k + 1) := List.drop_eq_getElem_cons ha
  have eb : b.data.toList.drop k = b.data.toList[k]'hb :: b.data.toList.drop (k + 1) := List.drop_eq_getElem_cons hb
  rw [cmp_drop k _ _ (Nat.le_of_lt ha) (Nat.le_of_lt hb) h, ea, eb]
  have h1 : b.data.toList[k]'hb < a.data.toList[k]'ha := UInt8.lt_iff_toNat_lt.2 hl
  have h2 : ¬ a.data.toList[k]'ha < b.data.toList[k]'hb := fun h => by
    have := UInt8.lt_iff_toNat_lt.1 h
    have hl : (b.data.toList[k]'hb).toNat < (a.data.toList[k]'ha).toNat := hl
    omega
  rw [Lib.compareBytes, if_neg h2, if_pos h1]

theorem cmp_end {a b : ByteArray} {k : Nat} (h : alike a b k) (ha : k ≤ a.size) (hb : k ≤ b.size) (he : a.size ≤ k ∨ b.size ≤ k) : (a.size < b.size → cmpB a b = -1) ∧ (b.size < a.size → cmpB a b = 1) ∧ (a.size = b.size → cmpB a b = 0) := by
  have hd : ∀ (c : ByteArray), c.size ≤ k → c.data.toList.drop k = [] := fun c h => List.drop_eq_nil_of_le h
  have hn : ∀ (c : ByteArray), k < c.size → ∃ x r, c.data.toList.drop k = x :: r := fun c h => ⟨_, _, List.drop_eq_getElem_cons (show k < c.data.toList.length from h)⟩
  unfold cmpB
  rw [cmp_drop k _ _ ha hb h]
  refine ⟨fun hl => ?_, fun hl => ?_, fun hl => ?_⟩
  · obtain ⟨x, r, e⟩ := hn b (by omega)
    rw [hd a (by omega), e]; simp [Lib.compareBytes]
  · obtain ⟨x, r, e⟩ := hn a (by omega)
    rw [hd b (by omega), e]; simp [Lib.compareBytes]
  · rw [hd a (by omega), hd b (by omega)]; simp [Lib.compareBytes]

theorem ret_int {a b : Int} (h : a = b) : Ending.returned (.int .i64 a) = .returned (.int .i64 b) := by rw [h]

set_option maxHeartbeats 1000000 in
theorem rcompare_any (a b : ByteArray) (ha : a.size ≤ maxLen) (w : World) :
    Calls Tryd.prog 21 #[.string a, .string b] w fun e w' => e = .returned (.int .i64 (cmpB a b)) ∧ ∃ n, w' = w.drewN n := by
  unfold maxLen at ha
  go_enter Tryd.func21, Tryd.ntmps21
  go_wp2
  go_loopw [5] (fun i wr => ∃ k n : Nat, k ≤ a.size ∧ k ≤ b.size ∧ i = .int .i64 k ∧ alike a b k ∧ wr = w.drewN n) (fun i _ => a.size - (intOf i).toNat)
  case atStart => exact ⟨0, 0, Nat.zero_le _, Nat.zero_le _, rfl, rfl, rfl⟩
  case round =>
    obtain ⟨k, n, hka, hkb, rfl, hal, rfl⟩ := hrel
    by_cases h1 : k < a.size
    · by_cases h2 : k < b.size
      · by_cases h3 : a[k].toNat < b[k].toNat
        · have hres := Lib.hid (cmp_lt hal h1 h2 h3)
          go_wp2
          go_quiet (fail)
          go_wp2
          go_ret
          exact ⟨ret_int hres.out.symm, _, World.drewN_drewN _ _ _⟩
        · by_cases h4 : b[k].toNat < a[k].toNat
          · have hres := Lib.hid (cmp_gt hal h1 h2 h4)
            have h3 : b[k].toNat ≤ a[k].toNat := by omega
            go_wp2
            go_quiet (fail)
            go_wp2
            go_quiet (fail)
            go_wp2
            go_ret
            exact ⟨ret_int hres.out.symm, _, by rw [World.drewN_drewN, World.drewN_drewN]⟩
          · have hnx := Lib.hid (alike_next hal h1 h2 (by omega))
            have h3 : b[k].toNat ≤ a[k].toNat := by omega
            have h4 : a[k].toNat ≤ b[k].toNat := by omega
            go_wp2
            go_quiet (fail)
            go_wp2
            go_quiet (fail)
            go_wp2
            go_roundw
            case rel => exact ⟨k + 1, _, by omega, by omega, by go_num, hnx.out, rfl⟩
            case measure => simp [intOf]; omega
      · have h2 : b.size ≤ k := by omega
        obtain ⟨e1, e2, e3⟩ := cmp_end hal hka hkb (.inr h2)
        have E2 := Lib.hid e2
        have E3 := Lib.hid e3
        clear e1 e2 e3
        go_wp2
        go_ret
        exact ⟨ret_int (E2.out (by omega)).symm, _, rfl⟩
    · have h1 : a.size ≤ k := by omega
      obtain ⟨e1, e2, e3⟩ := cmp_end hal hka hkb (.inl h1)
      have E1 := Lib.hid e1
      have E2 := Lib.hid e2
      have E3 := Lib.hid e3
      clear e1 e2 e3
      rcases Nat.lt_trichotomy a.size b.size with h5 | h5 | h5
      · go_wp2
        go_ret
        exact ⟨ret_int (E1.out h5).symm, _, rfl⟩
      · have h6 : a.size ≤ b.size := by omega
        have h7 : b.size ≤ a.size := by omega
        go_wp2
        all_goals
          go_ret
          exact ⟨ret_int (E3.out h5).symm, _, rfl⟩
      · omega
end Go.Proofs.YtnonpolifipblaaDoor
