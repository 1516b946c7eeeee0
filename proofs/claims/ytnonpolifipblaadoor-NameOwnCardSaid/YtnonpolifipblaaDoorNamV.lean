/- The document's own Letter, Take, May: for every byte, and every text. -/
import Derived.Test.YtnonpolifipblaaDoorNamT
namespace Go.Proofs.YtnonpolifipblaaDoor
open Go.RowKit Go.Shelf

theorem rletter_any (n : Nat) (w : World) :
    Calls Tryd.prog 13 #[.int .u8 n] w fun e w' => e = .returned (.bool (letN n)) ∧ w' = w := by
  have hc : n < 65 ∨ (65 ≤ n ∧ n ≤ 90) ∨ (91 ≤ n ∧ n ≤ 94) ∨ n = 95 ∨ n = 96 ∨ (97 ≤ n ∧ n ≤ 122) ∨ 123 ≤ n := by omega
  rcases hc with h | ⟨h, h1⟩ | ⟨h, h1⟩ | rfl | rfl | ⟨h, h1⟩ | h
  all_goals
    go_enter Tryd.func13, Tryd.ntmps13
    go_wp2
  all_goals
    go_ret
    refine ⟨ret_bool ?_, rfl⟩
  all_goals first
    | (unfold letN; rw [Bool.eq_iff_iff]; simp; omega)
    | (unfold letN; simp; done)
    | (unfold letN; simp; omega)

theorem rdigit_any (n : Nat) (w : World) :
    Calls Tryd.prog 25 #[.int .u8 n] w fun e w' => e = .returned (.bool (digN n)) ∧ w' = w := by
  have hc : n < 48 ∨ (48 ≤ n ∧ n ≤ 57) ∨ 58 ≤ n := by omega
  rcases hc with h | ⟨h, h1⟩ | h
  all_goals
    go_enter Tryd.func25, Tryd.ntmps25
    go_wp2
  all_goals
    go_ret
    refine ⟨ret_bool ?_, rfl⟩
  all_goals first
    | (unfold digN; rw [Bool.eq_iff_iff]; simp; omega)
    | (unfold digN; simp; done)
    | (unfold digN; simp; omega)

theorem rletter_is {n : Nat} {b : Bool} (h : letN n = b) (w : World) :
    Calls Tryd.prog 13 #[.int .u8 n] w fun e w' => e = .returned (.bool b) ∧ w' = w := by subst h; exact rletter_any n w
theorem rdigit_is {n : Nat} {b : Bool} (h : digN n = b) (w : World) :
    Calls Tryd.prog 25 #[.int .u8 n] w fun e w' => e = .returned (.bool b) ∧ w' = w := by subst h; exact rdigit_any n w

set_option maxHeartbeats 1000000 in
theorem rtake_any (s : ByteArray) (hs : s.size ≤ maxLen) (w : World) :
    Calls Tryd.prog 17 #[.string s] w fun e w' => e = .returned (.string (tkB s)) ∧ w' = w := by
  unfold maxLen at hs
  by_cases h0 : s.size = 0
  · have he : s.toList.isEmpty = true := empty_is (by simp [h0])
    go_enter Tryd.func17, Tryd.ntmps17
    go_wp2
    go_ret
    exact ⟨ret_str (tkB_none (tk_none h0)).symm, rfl⟩
  · have he : s.toList.isEmpty = false := empty_is (by simp [h0])
    have h0 : 0 < s.size := by omega
    have hh := tk_head s h0
    cases hl : letN s[0].toNat with
    | false =>
      rw [hl] at hh
      have h1 : tk s = 0 := by have : ¬ 0 < tk s := by simpa using hh.symm
                               omega
      have H1 := Lib.hid h1
      clear hh h1
      go_enter Tryd.func17, Tryd.ntmps17
      go_wp2_with (go_at_call 13; refine (rletter_is hl _).mono ?_; rintro e w' ⟨rfl, rfl⟩)
      go_ret
      exact ⟨ret_str (tkB_none H1.out).symm, rfl⟩
    | true =>
      rw [hl] at hh
      have h1 : 1 ≤ tk s := by have : 0 < tk s := by simpa using hh.symm
                               omega
      have h2 : tk s ≤ s.size := tk_le s
      clear hh
      have hle := tk_le s
      obtain ⟨T, hT⟩ : ∃ T, tk s = T := ⟨_, rfl⟩
      have HT := Lib.hid hT
      rw [hT] at h1 h2 hle
      clear hT
      go_enter Tryd.func17, Tryd.ntmps17
      go_wp2_with (go_at_call 13; refine (rletter_is hl _).mono ?_; rintro e w' ⟨rfl, rfl⟩)
      go_loop [3] (fun i => ∃ k : Nat, k ≤ T ∧ i = .int .i64 k) (fun i => s.size - (intOf i).toNat)
      case atStart => exact ⟨0, Nat.zero_le _, rfl⟩
      case round =>
        obtain ⟨k, hkT, rfl⟩ := hrel
        by_cases hlt : k < T
        · have hks : k < s.size := by omega
          have hin : inN s[k].toNat = true := by
            rcases Nat.eq_zero_or_pos k with rfl | hk1
            · unfold inN; rw [hl]; rfl
            · exact (tk_lt s k hk1 (by rw [HT.out]; exact hlt)).2
          cases hl2 : letN s[k].toNat with
          | true =>
            clear hin
            go_wp2_with (go_at_call 13; refine (rletter_is hl2 _).mono ?_; rintro e w' ⟨rfl, rfl⟩)
            exact ⟨⟨k + 1, by omega, by go_num⟩, by simp [intOf]; omega⟩
          | false =>
            have hd : digN s[k].toNat = true := by unfold inN at hin; rw [hl2] at hin; simpa using hin
            clear hin
            go_wp2_with (first
              | (go_at_call 13; refine (rletter_is hl2 _).mono ?_; rintro e w' ⟨rfl, rfl⟩)
              | (go_at_call 25; refine (rdigit_is hd _).mono ?_; rintro e w' ⟨rfl, rfl⟩))
            exact ⟨⟨k + 1, by omega, by go_num⟩, by simp [intOf]; omega⟩
        · obtain rfl : k = T := by omega
          by_cases hks : k < s.size
          · have hin : inN s[k].toNat = false := tk_at s k h1 HT.out.symm hks
            unfold inN at hin
            rw [Bool.or_eq_false_iff] at hin
            obtain ⟨hl2, hd⟩ := hin
            go_wp2_with (first
              | (go_at_call 13; refine (rletter_is hl2 _).mono ?_; rintro e w' ⟨rfl, rfl⟩)
              | (go_at_call 25; refine (rdigit_is hd _).mono ?_; rintro e w' ⟨rfl, rfl⟩))
            go_ret
            exact ⟨ret_str (by unfold tkB; rw [HT.out]), rfl⟩
          · go_wp2_with (fail)
            go_ret
            exact ⟨ret_str (by unfold tkB; rw [HT.out]), rfl⟩

theorem rmay_any (s : ByteArray) (hs : s.size ≤ maxLen) (w : World) :
    Calls Tryd.prog 15 #[.string s] w fun e w' => e = .returned (.bool (mayB s)) ∧ w' = w := by
  by_cases h0 : s.size = 0
  · have he : s.toList.isEmpty = true := empty_is (by simp [h0])
    go_enter Tryd.func15, Tryd.ntmps15
    go_wp2
    go_ret
    exact ⟨ret_bool (by unfold mayB; simp [h0]), rfl⟩
  · have he : s.toList.isEmpty = false := empty_is (by simp [h0])
    have h0 : 0 < s.size := by omega
    by_cases h32 : s.size ≤ 32
    · have hq : ((tkB s).toList == s.toList) = decide (tk s = s.size) := by
        rw [Bool.eq_iff_iff, beq_iff_eq, decide_eq_true_eq, ByteArray.toList_eq, ByteArray.toList_eq, tkB_list]
        constructor
        · intro h
          have h1 := congrArg List.length h
          rw [List.length_take, size_list] at h1
          have := tk_le s
          omega
        · intro h
          rw [h, ← size_list, List.take_length]
      obtain ⟨t, ht⟩ : ∃ t, tkB s = t := ⟨_, rfl⟩
      have hc : ∀ w, Calls Tryd.prog 17 #[.string s] w fun e w' => e = .returned (.string t) ∧ w' = w := fun w => by rw [← ht]; exact rtake_any s hs w
      rw [ht] at hq
      have HQ := Lib.hid hq
      clear hq ht
      go_enter Tryd.func15, Tryd.ntmps15
      go_wp2_with (go_at_call 17; refine (hc _).mono ?_; rintro e w' ⟨rfl, rfl⟩)
      go_ret
      refine ⟨ret_bool ?_, rfl⟩
      rw [HQ.out]
      unfold mayB
      simp [h0, h32]
    · have h32 : 32 < s.size := by omega
      go_enter Tryd.func15, Tryd.ntmps15
      go_wp2
      go_ret
      exact ⟨ret_bool (by unfold mayB; simp; omega), rfl⟩
end Go.Proofs.YtnonpolifipblaaDoor
