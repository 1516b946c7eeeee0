/- Letter, digit, Take, May: for every byte, and every text. -/
import Derived.LoopNIn
import Derived.TacticsInMore
import Derived.Laws.IdiomStrings
import Derived.Test.YtnonpolifipblaaDoorNamM
import Derived.Test.YtnonpolifipblaaDoorNamR
namespace Go.Proofs.YtnonpolifipblaaDoor
open Go.RowKit Go.Shelf

theorem ret_bool {a b : Bool} (h : a = b) : Ending.returned (.bool a) = .returned (.bool b) := by rw [h]

theorem letter_any (n : Nat) (w : World) :
    Calls Tryd.prog 12 #[.int .u8 n] w fun e w' => e = .returned (.bool (letN n)) ∧ w' = w := by
  have hc : n < 65 ∨ (65 ≤ n ∧ n ≤ 90) ∨ (91 ≤ n ∧ n ≤ 94) ∨ n = 95 ∨ n = 96 ∨ (97 ≤ n ∧ n ≤ 122) ∨ 123 ≤ n := by omega
  rcases hc with h | ⟨h, h1⟩ | ⟨h, h1⟩ | rfl | rfl | ⟨h, h1⟩ | h
  all_goals
    go_enter Tryd.func12, Tryd.ntmps12
    go_wp2
  all_goals
    go_ret
    refine ⟨ret_bool ?_, rfl⟩
  all_goals first
    | (unfold letN; rw [Bool.eq_iff_iff]; simp; omega)
    | (unfold letN; simp; done)
    | (unfold letN; simp; omega)

theorem digit_any (n : Nat) (w : World) :
    Calls Tryd.prog 24 #[.int .u8 n] w fun e w' => e = .returned (.bool (digN n)) ∧ w' = w := by
  have hc : n < 48 ∨ (48 ≤ n ∧ n ≤ 57) ∨ 58 ≤ n := by omega
  rcases hc with h | ⟨h, h1⟩ | h
  all_goals
    go_enter Tryd.func24, Tryd.ntmps24
    go_wp2
  all_goals
    go_ret
    refine ⟨ret_bool ?_, rfl⟩
  all_goals first
    | (unfold digN; rw [Bool.eq_iff_iff]; simp; omega)
    | (unfold digN; simp; done)
    | (unfold digN; simp; omega)

theorem letter_is {n : Nat} {b : Bool} (h : letN n = b) (w : World) :
    Calls Tryd.prog 12 #[.int .u8 n] w fun e w' => e = .returned (.bool b) ∧ w' = w := by subst h; exact letter_any n w
theorem digit_is {n : Nat} {b : Bool} (h : digN n = b) (w : World) :
    Calls Tryd.prog 24 #[.int .u8 n] w fun e w' => e = .returned (.bool b) ∧ w' = w := by subst h; exact digit_any n w

theorem empty_is {s : ByteArray} {b : Bool} (h : decide (s.size = 0) = b) : s.toList.isEmpty = b := by
  subst h
  rw [ByteArray.toList_eq, Bool.eq_iff_iff, List.isEmpty_iff, decide_eq_true_eq, ← size_list, List.length_eq_zero_iff]

theorem tkB_none {s : ByteArray} (h : tk s = 0) : tkB s = ⟨#[]⟩ := by
  have h1 := tkB_list s
  rw [h, List.take_zero] at h1
  cases hb : tkB s with
  | mk d =>
    rw [hb] at h1
    simp only at h1
    rw [Array.toList_eq_nil_iff.1 h1]

theorem tk_none {s : ByteArray} (h : s.size = 0) : tk s = 0 := by have := tk_le s; omega

theorem ret_str {a b : ByteArray} (h : a = b) : Ending.returned (.string a) = .returned (.string b) := by rw [h]

set_option maxHeartbeats 1000000 in
theorem take_any (s : ByteArray) (hs : s.size ≤ maxLen) (w : World) :
    Calls Tryd.prog 16 #[.string s] w fun e w' => e = .returned (.string (tkB s)) ∧ w' = w := by
  unfold maxLen at hs
  by_cases h0 : s.size = 0
  · have he : s.toList.isEmpty = true := empty_is (by simp [h0])
    go_enter Tryd.func16, Tryd.ntmps16
    go_wp2
    go_ret
    exact ⟨ret_str (tkB_none (tk_none h0)).symm, rfl⟩
  · have he : s.toList.isEmpty = false := empty_is (by simp [h0])
    have h0 : 0 < s.size := by omega
    have hh := tk_head s h0
    cases hl : letN s[0].toNat with
    | false =>
      rw [hl] at hh
      have h1 : tk s = 0 := by have : ¬ 0 < tk s := by simpa using hh.symm
                               omega
      have H1 := Lib.hid h1
      clear hh h1
      go_enter Tryd.func16, Tryd.ntmps16
      go_wp2_with (go_at_call 12; refine (letter_is hl _).mono ?_; rintro e w' ⟨rfl, rfl⟩)
      go_ret
      exact ⟨ret_str (tkB_none H1.out).symm, rfl⟩
    | true =>
      rw [hl] at hh
      have h1 : 1 ≤ tk s := by have : 0 < tk s := by simpa using hh.symm
                               omega
      have h2 : tk s ≤ s.size := tk_le s
      clear hh
      have hle := tk_le s
      obtain ⟨T, hT⟩ : ∃ T, tk s = T := ⟨_, rfl⟩
      have HT := Lib.hid hT
      rw [hT] at h1 h2 hle
      clear hT
      go_enter Tryd.func16, Tryd.ntmps16
      go_wp2_with (go_at_call 12; refine (letter_is hl _).mono ?_; rintro e w' ⟨rfl, rfl⟩)
      go_loop [3] (fun i => ∃ k : Nat, 1 ≤ k ∧ k ≤ T ∧ i = .int .i64 k) (fun i => s.size - (intOf i).toNat)
      case atStart => exact ⟨1, Nat.le_refl _, h1, rfl⟩
      case round =>
        obtain ⟨k, hk1, hkT, rfl⟩ := hrel
        by_cases hlt : k < T
        · have hks : k < s.size := by omega
          have hin : inN s[k].toNat = true := (tk_lt s k hk1 (by rw [HT.out]; exact hlt)).2
          cases hl2 : letN s[k].toNat with
          | true =>
            clear hin
            go_wp2_with (go_at_call 12; refine (letter_is hl2 _).mono ?_; rintro e w' ⟨rfl, rfl⟩)
            exact ⟨⟨k + 1, by omega, by omega, by go_num⟩, by simp [intOf]; omega⟩
          | false =>
            have hd : digN s[k].toNat = true := by unfold inN at hin; rw [hl2] at hin; simpa using hin
            clear hin
            go_wp2_with (first
              | (go_at_call 12; refine (letter_is hl2 _).mono ?_; rintro e w' ⟨rfl, rfl⟩)
              | (go_at_call 24; refine (digit_is hd _).mono ?_; rintro e w' ⟨rfl, rfl⟩))
            exact ⟨⟨k + 1, by omega, by omega, by go_num⟩, by simp [intOf]; omega⟩
        · obtain rfl : k = T := by omega
          by_cases hks : k < s.size
          · have hin : inN s[k].toNat = false := tk_at s k hk1 HT.out.symm hks
            unfold inN at hin
            rw [Bool.or_eq_false_iff] at hin
            obtain ⟨hl2, hd⟩ := hin
            go_wp2_with (first
              | (go_at_call 12; refine (letter_is hl2 _).mono ?_; rintro e w' ⟨rfl, rfl⟩)
              | (go_at_call 24; refine (digit_is hd _).mono ?_; rintro e w' ⟨rfl, rfl⟩))
            go_ret
            exact ⟨ret_str (by unfold tkB; rw [HT.out]), rfl⟩
          · go_wp2_with (fail)
            go_ret
            exact ⟨ret_str (by unfold tkB; rw [HT.out]), rfl⟩

theorem may_any (s : ByteArray) (hs : s.size ≤ maxLen) (w : World) :
    Calls Tryd.prog 14 #[.string s] w fun e w' => e = .returned (.bool (mayB s)) ∧ w' = w := by
  have hsz := tkB_size s
  by_cases h0 : s.size = 0
  · have he : s.toList.isEmpty = true := empty_is (by simp [h0])
    clear hsz
    go_enter Tryd.func14, Tryd.ntmps14
    go_wp2
    go_ret
    exact ⟨ret_bool (by unfold mayB; simp [h0]), rfl⟩
  · have he : s.toList.isEmpty = false := empty_is (by simp [h0])
    have h0 : 0 < s.size := by omega
    by_cases h32 : s.size ≤ 32
    · go_enter Tryd.func14, Tryd.ntmps14
      go_wp2_with (go_at_call 16; refine (take_any s hs _).mono ?_; rintro e w' ⟨rfl, rfl⟩)
      go_ret
      refine ⟨ret_bool ?_, rfl⟩
      unfold mayB
      rw [Bool.eq_iff_iff]
      simp
      omega
    · have h32 : 32 < s.size := by omega
      go_enter Tryd.func14, Tryd.ntmps14
      go_wp2
      go_ret
      exact ⟨ret_bool (by unfold mayB; simp; omega), rfl⟩
end Go.Proofs.YtnonpolifipblaaDoor
