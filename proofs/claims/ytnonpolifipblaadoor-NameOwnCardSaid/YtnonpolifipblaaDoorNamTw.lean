/- NameTaken's walk. -/
import Derived.Test.YtnonpolifipblaaDoorNamT
namespace Go.Proofs.YtnonpolifipblaaDoor
open Go.RowKit Go.Shelf

theorem tkB_full {s : ByteArray} (h : tk s = s.size) : tkB s = s := by
  apply bytes_eq
  rw [tkB_list, h, ← size_list, List.take_length]

theorem extract_eq {s t : ByteArray} (ht : tkB s = t) : ((s.extract 0 t.size).toList != t.toList) = false := by
  subst ht
  rw [tkB_size, bne_eq_false_iff_eq]; rfl

set_option maxRecDepth 100000 in
set_option maxHeartbeats 2000000 in
theorem taken_walk (s : ByteArray) (hs : s.size ≤ maxLen) (w : World) (hI : Inv w) :
    Calls Tryd.prog 6 #[.string s] w fun e w' => e = .returned (.bool true) ∧ Below w.heap.size w w' := by
  have hB : Below w.heap.size w w := Below.refl _ _
  by_cases hlong : 5000 < s.size
  · go_enter Tryd.func6, Tryd.ntmps6
    go_wp2_with fail
    refine (works_any hI hB).mono ?_
    rintro e w1 ⟨rfl, hb1⟩
    have hB1 := bstep hB hb1
    clear hb1 hB
    go_wp2_with fail
    refine (works_any hI hB1).mono ?_
    rintro e w2 ⟨rfl, hb2⟩
    have hB2 := bstep hB1 hb2
    go_wp2
    go_ret
    exact ⟨rfl, hB2⟩
  · have hlong : s.size ≤ 5000 := by omega
    obtain ⟨t, ht⟩ : ∃ t, tkB s = t := ⟨_, rfl⟩
    have htake : ∀ w : World, Calls Tryd.prog 16 #[.string s] w fun e w' => e = .returned (.string t) ∧ w' = w := fun w => by rw [← ht]; exact take_any s hs w
    have hx := extract_eq ht
    have hx2 : ((s.extract 0 t.size).toList == t.toList) = true := by rw [bne_eq_false_iff_eq] at hx; rw [hx]; simp
    have hts : t.size = tk s := by rw [← ht, tkB_size]
    have hle := tk_le s
    have hhead := tk_head s
    have hat := tk_at s t.size
    have htl : t.size ≤ maxLen := by rw [hts]; unfold maxLen at *; omega
    have hmay : ∀ (b : Bool), (decide (0 < t.size) && decide (t.size ≤ 32)) = b → ∀ w : World, Calls Tryd.prog 14 #[.string t] w fun e w' => e = .returned (.bool b) ∧ w' = w := fun b hb w => by
      have := may_any t htl w
      rw [← ht, may_tkB, ← hts] at this
      rw [← hb, ← ht]
      rw [ht] at this ⊢
      exact this
    have htT : ∀ b : Bool, decide (t.size = 0) = b → t.toList.isEmpty = b := fun b => empty_is
    have hsT : ∀ b : Bool, decide (s.size = 0) = b → s.toList.isEmpty = b := fun b => empty_is
    have hfl : t.size = s.size → t = s := fun h => by rw [← ht]; exact tkB_full (by rw [← hts]; exact h)
    rw [← hts] at hle hhead
    replace hat := fun h1 h => hat h1 hts h
    clear hts ht
    by_cases h0 : t.size = 0
    · have he := htT true (by simp [h0])
      have hm := hmay false (by simp [h0])
      by_cases hs0 : s.size = 0
      · have hse := hsT true (by simp [hs0])
        clear hsT htT hmay hat hhead hfl
        go_enter Tryd.func6, Tryd.ntmps6
        go_wp2_with fail
        refine (works_any hI hB).mono ?_
        rintro e w1 ⟨rfl, hb1⟩
        have hB1 := bstep hB hb1
        clear hb1 hB
        go_wp2_with (first
          | (go_at_call 16; refine (htake _).mono ?_; rintro e w' ⟨rfl, rfl⟩)
          | (go_at_call 14; refine (hm _).mono ?_; rintro e w' ⟨rfl, rfl⟩))
        go_ret
        exact ⟨rfl, hB1⟩
      · have hse := hsT false (by simp [hs0])
        have hs0 : 0 < s.size := by omega
        have hl : letN s[0].toNat = false := by rw [hhead hs0]; simp [h0]
        clear hsT htT hmay hat hhead hfl
        go_enter Tryd.func6, Tryd.ntmps6
        go_wp2_with fail
        refine (works_any hI hB).mono ?_
        rintro e w1 ⟨rfl, hb1⟩
        have hB1 := bstep hB hb1
        clear hb1 hB
        go_wp2_with (first
          | (go_at_call 16; refine (htake _).mono ?_; rintro e w' ⟨rfl, rfl⟩)
          | (go_at_call 14; refine (hm _).mono ?_; rintro e w' ⟨rfl, rfl⟩)
          | (go_at_call 12; refine (letter_is hl _).mono ?_; rintro e w' ⟨rfl, rfl⟩))
        go_ret
        exact ⟨rfl, hB1⟩
    · have he := htT false (by simp [h0])
      have h0 : 0 < t.size := by omega
      by_cases hfull : t.size = s.size
      · obtain rfl := hfl hfull
        clear hsT htT hat hhead hfl hfull
        by_cases h32 : t.size ≤ 32
        · have hm := hmay true (by simp [h0, h32])
          clear hmay
          have hdec : decide ((t.size : Int) ≤ 32) = true := by simp; omega
          go_enter Tryd.func6, Tryd.ntmps6
          go_wp2_with fail
          refine (works_any hI hB).mono ?_
          rintro e w1 ⟨rfl, hb1⟩
          have hB1 := bstep hB hb1
          clear hb1 hB
          go_wp2_with (first
            | (go_at_call 16; refine (htake _).mono ?_; rintro e w' ⟨rfl, rfl⟩)
            | (go_at_call 14; refine (hm _).mono ?_; rintro e w' ⟨rfl, rfl⟩))
          go_ret
          exact ⟨rfl, hB1⟩
        · have hm := hmay false (by simp [h32])
          have h32 : 32 < t.size := by omega
          clear hmay
          have hdec : decide ((t.size : Int) ≤ 32) = false := by simp; omega
          go_enter Tryd.func6, Tryd.ntmps6
          go_wp2_with fail
          refine (works_any hI hB).mono ?_
          rintro e w1 ⟨rfl, hb1⟩
          have hB1 := bstep hB hb1
          clear hb1 hB
          go_wp2_with (first
            | (go_at_call 16; refine (htake _).mono ?_; rintro e w' ⟨rfl, rfl⟩)
            | (go_at_call 14; refine (hm _).mono ?_; rintro e w' ⟨rfl, rfl⟩))
          go_ret
          exact ⟨rfl, hB1⟩
      · have hpart : t.size < s.size := by omega
        have hin := hat h0 hpart
        unfold inN at hin
        rw [Bool.or_eq_false_iff] at hin
        obtain ⟨hl, hd⟩ := hin
        have hd : s[t.size].toNat < 48 ∨ 57 < s[t.size].toNat := by
          unfold digN at hd
          rw [Bool.and_eq_false_iff, decide_eq_false_iff_not, decide_eq_false_iff_not] at hd
          omega
        clear hsT htT hat hhead hfull hfl
        by_cases h32 : t.size ≤ 32
        · have hm := hmay true (by simp [h0, h32])
          clear hmay
          have hdec : decide ((t.size : Int) ≤ 32) = true := by simp; omega
          rcases hd with hd | hd
          all_goals
            go_enter Tryd.func6, Tryd.ntmps6
            go_wp2_with fail
            refine (works_any hI hB).mono ?_
            rintro e w1 ⟨rfl, hb1⟩
            have hB1 := bstep hB hb1
            clear hb1 hB
            go_wp2_with (first
              | (go_at_call 16; refine (htake _).mono ?_; rintro e w' ⟨rfl, rfl⟩)
              | (go_at_call 14; refine (hm _).mono ?_; rintro e w' ⟨rfl, rfl⟩)
              | (go_at_call 12; refine (letter_is hl _).mono ?_; rintro e w' ⟨rfl, rfl⟩))
            go_ret
            first
              | exact ⟨rfl, hB1⟩
              | exact ⟨ret_bool (by simp; omega), hB1⟩
              | exact ⟨ret_bool (by simp [hd]), hB1⟩
        · have hm := hmay false (by simp [h32])
          have h32 : 32 < t.size := by omega
          clear hmay
          have hdec : decide ((t.size : Int) ≤ 32) = false := by simp; omega
          rcases hd with hd | hd
          all_goals
            go_enter Tryd.func6, Tryd.ntmps6
            go_wp2_with fail
            refine (works_any hI hB).mono ?_
            rintro e w1 ⟨rfl, hb1⟩
            have hB1 := bstep hB hb1
            clear hb1 hB
            go_wp2_with (first
              | (go_at_call 16; refine (htake _).mono ?_; rintro e w' ⟨rfl, rfl⟩)
              | (go_at_call 14; refine (hm _).mono ?_; rintro e w' ⟨rfl, rfl⟩)
              | (go_at_call 12; refine (letter_is hl _).mono ?_; rintro e w' ⟨rfl, rfl⟩))
            go_ret
            first
              | exact ⟨rfl, hB1⟩
              | exact ⟨ret_bool (by simp; omega), hB1⟩
              | exact ⟨ret_bool (by simp [hd]), hB1⟩
end Go.Proofs.YtnonpolifipblaaDoor
