/- The document's own Num: for every text. -/
import Derived.Test.YtnonpolifipblaaDoorNamU
import Derived.Test.YtnonpolifipblaaDoorNamV
namespace Go.Proofs.YtnonpolifipblaaDoor
open Go.RowKit Go.Shelf

set_option maxHeartbeats 1000000 in
theorem rnum_none (s : ByteArray) (hs : s.size ≤ maxLen) (hf : formL s.data.toList = false) (most : Int) (w : World) :
    Calls Tryd.prog 11 #[.string s, .int .i64 most] w fun e w' => e = .returned (.tuple #[.int .i64 0, .int .i64 4]) ∧ w' = w := by
  unfold maxLen at hs
  by_cases h0 : s.size = 0
  · have he : s.toList.isEmpty = true := empty_is (by simp [h0])
    clear hf
    go_enter Tryd.func11, Tryd.ntmps11
    go_wp2
    go_ret2
    exact ⟨rfl, rfl⟩
  · have he : s.toList.isEmpty = false := empty_is (by simp [h0])
    have h0 : 0 < s.size := by omega
    by_cases hz : s[0].toNat = 48 ∧ 1 < s.size
    · obtain ⟨hz, h1⟩ := hz
      have hz := eq48 hz
      clear hf
      go_enter Tryd.func11, Tryd.ntmps11
      go_wp2
      go_ret2
      exact ⟨rfl, rfl⟩
    · have hT := form_false hf h0 hz
      have hlt0 := tw_lt (p := fun c : UInt8 => digN c.toNat) s.data.toList
      have hat0 := tw_at (p := fun c : UInt8 => digN c.toNat) s.data.toList
      obtain ⟨T, hTe⟩ : ∃ T, (s.data.toList.takeWhile fun c => digN c.toNat).length = T := ⟨_, rfl⟩
      rw [hTe] at hT hlt0
      have hat : ∀ h : T < s.size, digN s[T].toNat = false := fun h => by subst hTe; exact hat0 h
      have hlt : ∀ k, k < T → ∀ h : k < s.size, digN s[k].toNat = true := fun k hk h => (hlt0 k hk).2
      clear hat0 hlt0 hTe hf
      have hz : ((s[0].toNat : Int) == 48) = false ∨ s.size ≤ 1 := by
        by_cases h : s[0].toNat = 48
        · exact .inr (by omega)
        · exact .inl (ne48 h)
      rcases hz with hz | hz
      all_goals
        go_enter Tryd.func11, Tryd.ntmps11
        go_wp2
        all_goals
          go_loop [6] (fun i => ∃ k : Nat, k ≤ T ∧ i = .int .i64 k) (fun i => s.size - (intOf i).toNat)
          case atStart => exact ⟨0, Nat.zero_le _, rfl⟩
          case round =>
            obtain ⟨k, hkT, rfl⟩ := hrel
            by_cases hk : k < T
            · have hks : k < s.size := by omega
              have hd := hlt k hk hks
              go_wp2_with (go_at_call 25; refine (rdigit_is hd _).mono ?_; rintro e w' ⟨rfl, rfl⟩)
              all_goals exact ⟨⟨k + 1, by omega, by go_num⟩, by simp [intOf]; omega⟩
            · obtain rfl : k = T := by omega
              have hd := hat hT
              go_wp2_with (go_at_call 25; refine (rdigit_is hd _).mono ?_; rintro e w' ⟨rfl, rfl⟩)
              go_ret2
              exact ⟨rfl, rfl⟩

set_option maxHeartbeats 1000000 in
theorem rnum_val (s : ByteArray) (hs : s.size ≤ maxLen) (hf : formL s.data.toList = true) (most : Int) (hm0 : -9223372036854775808 ≤ most) (hm1 : most ≤ 9223372036854775807) (w : World) :
    Calls Tryd.prog 11 #[.string s, .int .i64 most] w fun e w' => e = .returned (.tuple #[.int .i64 (numN s.data.toList most), .int .i64 (numE s.data.toList most)]) ∧ w' = w := by
  unfold maxLen at hs
  obtain ⟨h0, hz, hdig⟩ := form_true hf
  have he : s.toList.isEmpty = false := empty_is (by rw [decide_eq_false_iff_not]; omega)
  clear hf
  have hz : ((s[0].toNat : Int) == 48) = false ∨ s.size ≤ 1 := by
    rcases hz with h | h
    · exact .inl (h h0)
    · exact .inr h
  rcases hz with hz | hz
  all_goals
    go_enter Tryd.func11, Tryd.ntmps11
    go_wp2
    all_goals
      go_loop [6] (fun i => ∃ k : Nat, k ≤ s.size ∧ i = .int .i64 k) (fun i => s.size - (intOf i).toNat)
      case atStart => exact ⟨0, Nat.zero_le _, rfl⟩
      case round =>
        obtain ⟨k, hkT, rfl⟩ := hrel
        by_cases hk : k < s.size
        · have hd := hdig k hk
          go_wp2_with (go_at_call 25; refine (rdigit_is hd _).mono ?_; rintro e w' ⟨rfl, rfl⟩)
          all_goals exact ⟨⟨k + 1, by omega, by go_num⟩, by simp [intOf]; omega⟩
        · obtain rfl : k = s.size := by omega
          go_wp2
          go_loop [7, 8, 9] (fun n i d => ∃ (k : Nat) (n0 : Int), k ≤ s.size ∧ i = .int .i64 k ∧ n = .int .i64 n0 ∧ NumInv s most k n0 false) (fun _ i _ => s.size - (intOf i).toNat)
          case atStart => exact ⟨0, 0, Nat.zero_le _, rfl, rfl, ⟨fun h => (by cases h), fun _ => ⟨rfl, .inl rfl⟩⟩⟩
          case round =>
            obtain ⟨k, n0, hkT2, rfl, rfl, hrl⟩ := hrel
            by_cases hk2 : k < s.size
            · have hd1 := (digN_iff _).1 (hdig k hk2)
              obtain ⟨hd2, hd3⟩ := hd1
              have hn0 : 0 ≤ n0 := hrl.pos
              have hlate : most < 10 * n0 + ((s[k].toNat : Int) - 48) → Hid (numN s.data.toList most = 0 ∧ numE s.data.toList most = 40) := fun h => by
                have h1 := (hrl.now hk2 hd2 h (n1 := 0)).1 rfl
                have h2 := val_take_le s.data.toList (k + 1)
                exact Lib.hid ⟨by unfold numN; rw [if_neg (by omega)], by unfold numE; rw [if_neg (by omega)]⟩
              by_cases c0 : most < 0
              · have hend := hlate (by omega)
                clear hlate
                go_wp2
                go_ret2
                exact ⟨ret_two hend.out.1.symm hend.out.2.symm, rfl⟩
              · have c0 : 0 ≤ most := by omega
                by_cases c1 : most < (s[k].toNat : Int) - 48
                · have hend := hlate (by omega)
                  clear hlate
                  have hq : (most - ((s[k].toNat : Int) - 48)).tdiv 10 = 0 := by
                    rw [show most - ((s[k].toNat : Int) - 48) = -(((s[k].toNat : Int) - 48) - most) by omega, Int.neg_tdiv, Int.tdiv_eq_ediv_of_nonneg (by omega), Int.ediv_eq_zero_of_lt (by omega) (by omega)]
                    rfl
                  have hb1 : -9223372036854775808 ≤ most - ((s[k].toNat : Int) - 48) := by omega
                  have hb2 : most - ((s[k].toNat : Int) - 48) ≤ 9223372036854775807 := by omega
                  go_wp2
                  all_goals
                    go_ret2
                    exact ⟨ret_two hend.out.1.symm hend.out.2.symm, rfl⟩
                · have c1 : (s[k].toNat : Int) - 48 ≤ most := by omega
                  have c1' : 0 ≤ most - ((s[k].toNat : Int) - 48) := by omega
                  have c1'' : most - ((s[k].toNat : Int) - 48) ≤ 9223372036854775807 := by omega
                  by_cases c2 : (most - ((s[k].toNat : Int) - 48)) / 10 < n0
                  · have hend := hlate (by omega)
                    clear hlate
                    go_wp2
                    all_goals
                      go_ret2
                      exact ⟨ret_two hend.out.1.symm hend.out.2.symm, rfl⟩
                  · have c2 : n0 ≤ (most - ((s[k].toNat : Int) - 48)) / 10 := by omega
                    have c3 : 10 * n0 + ((s[k].toNat : Int) - 48) ≤ most := by omega
                    have c4 : 10 * n0 ≤ 9223372036854775807 := by omega
                    have c5 : 0 ≤ 10 * n0 := by omega
                    have hon := Lib.hid (hrl.on hk2 hd2 c3)
                    clear hlate
                    go_wp2
                    all_goals exact ⟨⟨k + 1, _, by omega, by go_num, rfl, hon.out⟩, by simp [intOf]; omega⟩
            · obtain rfl : k = s.size := by omega
              have hle : (valL s.data.toList : Int) ≤ most := ((hrl.end h0).2 rfl).2
              have hv := Lib.hid ((hrl.end h0).2 rfl).1
              have hle := Lib.hid hle
              go_wp2
              go_ret2
              refine ⟨ret_two ?_ ?_, rfl⟩
              · unfold numN
                rw [if_pos hle.out]
                exact hv.out
              · unfold numE
                rw [if_pos hle.out]
end Go.Proofs.YtnonpolifipblaaDoor
