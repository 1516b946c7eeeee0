/- NameTells' walk. -/
import Derived.Test.YtnonpolifipblaaDoorNamZ
import Derived.Test.YtnonpolifipblaaDoorNamY
import Derived.Test.YtnonpolifipblaaDoorNamX
namespace Go.Proofs.YtnonpolifipblaaDoor
open Go.RowKit Go.Shelf

theorem rshow_any (n : Int) (h0 : -9223372036854775808 ≤ n) (h1 : n ≤ 9223372036854775807) (w : World) :
    Calls Tryd.prog 19 #[.int .i64 n] w fun e w' => e = .returned (.string (shB n)) ∧ Below w.heap.size w w' := by
  by_cases h : 0 ≤ n
  · exact rshow_pos n h h1 w
  · have := rshow_neg n.natAbs (by omega) (by omega) w
    rw [show -((n.natAbs : Nat) : Int) = n by omega] at this
    exact this

/-- What both tell of a text: the same. -/
theorem num_both (s : ByteArray) (hs : s.size ≤ maxLen) (most : Int) (hm0 : -9223372036854775808 ≤ most) (hm1 : most ≤ 9223372036854775807) :
    ∃ y f : Int, (∀ w : World, Calls Tryd.prog 10 #[.string s, .int .i64 most] w fun r w' => r = .returned (.tuple #[.int .i64 y, .int .i64 f]) ∧ w' = w) ∧
      ∀ w : World, Calls Tryd.prog 11 #[.string s, .int .i64 most] w fun r w' => r = .returned (.tuple #[.int .i64 y, .int .i64 f]) ∧ w' = w := by
  cases hf : formL s.data.toList with
  | false => exact ⟨0, 4, fun w => num_none s hs hf most w, fun w => rnum_none s hs hf most w⟩
  | true => exact ⟨_, _, fun w => num_val s hs hf most hm0 hm1 w, fun w => rnum_val s hs hf most hm0 hm1 w⟩

theorem below_drew (w : World) (n : Nat) : Below w.heap.size w (w.drewN n) := ⟨rfl, rfl, rfl, Nat.le_refl _, fun _ _ => rfl⟩

set_option maxRecDepth 100000 in
set_option maxHeartbeats 1000000 in
theorem tells_walk (c : Nat) (s t : ByteArray) (n most : Int) (hs : s.size ≤ maxLen) (h0 : -9223372036854775808 ≤ n) (h1 : n ≤ 9223372036854775807) (hm0 : -9223372036854775808 ≤ most) (hm1 : most ≤ 9223372036854775807) (w : World) (hI : Inv w) :
    Calls Tryd.prog 3 #[.int .u8 c, .string s, .string t, .int .i64 n, .int .i64 most] w fun e w' => e = .returned (.bool true) ∧ Below w.heap.size w w' := by
  have hB : Below w.heap.size w w := Below.refl _ _
  have hcase : (5000 < s.size) ∨ (s.size ≤ 5000 ∧ 5000 < t.size) ∨ (s.size ≤ 5000 ∧ t.size ≤ 5000) := by omega
  obtain ⟨y, f, hnum, hrnum⟩ := num_both s hs most hm0 hm1
  have hlet : ∀ w, Calls Tryd.prog 12 #[.int .u8 c] w fun e w' => e = .returned (.bool (letN c)) ∧ w' = w := fun w => letter_any c w
  have hrlet : ∀ w, Calls Tryd.prog 13 #[.int .u8 c] w fun e w' => e = .returned (.bool (letN c)) ∧ w' = w := fun w => rletter_any c w
  have hmay : ∀ w, Calls Tryd.prog 14 #[.string s] w fun e w' => e = .returned (.bool (mayB s)) ∧ w' = w := fun w => may_any s hs w
  have hrmay : ∀ w, Calls Tryd.prog 15 #[.string s] w fun e w' => e = .returned (.bool (mayB s)) ∧ w' = w := fun w => rmay_any s hs w
  have htake : ∀ w, Calls Tryd.prog 16 #[.string s] w fun e w' => e = .returned (.string (tkB s)) ∧ w' = w := fun w => take_any s hs w
  have hrtake : ∀ w, Calls Tryd.prog 17 #[.string s] w fun e w' => e = .returned (.string (tkB s)) ∧ w' = w := fun w => rtake_any s hs w
  have hshow : ∀ w1 : World, Below w.heap.size w w1 → Calls Tryd.prog 18 #[.int .i64 n] w1 fun e w' => e = .returned (.string (shB n)) ∧ Below w1.heap.size w1 w' := fun w1 hb => show_sh hI n h0 h1 w1 hb
  have hrshow : ∀ w1 : World, Calls Tryd.prog 19 #[.int .i64 n] w1 fun e w' => e = .returned (.string (shB n)) ∧ Below w1.heap.size w1 w' := fun w1 => rshow_any n h0 h1 w1
  have hcmp : ∀ w, Calls Tryd.prog 20 #[.string s, .string t] w fun e w' => e = .returned (.int .i64 (cmpB s t)) ∧ w' = w := fun w => compare_any s t w
  have hrcmp : ∀ w1, Calls Tryd.prog 21 #[.string s, .string t] w1 fun e w' => e = .returned (.int .i64 (cmpB s t)) ∧ ∃ n, w' = w1.drewN n := fun w1 => rcompare_any s t hs w1
  obtain ⟨S, hS⟩ : ∃ S, shB n = S := ⟨_, rfl⟩
  obtain ⟨T, hT⟩ : ∃ T, tkB s = T := ⟨_, rfl⟩
  obtain ⟨l, hl⟩ : ∃ l, letN c = l := ⟨_, rfl⟩
  obtain ⟨m, hm⟩ : ∃ m, mayB s = m := ⟨_, rfl⟩
  obtain ⟨z, hz⟩ : ∃ z, cmpB s t = z := ⟨_, rfl⟩
  rw [hS] at hshow hrshow
  rw [hT] at htake hrtake
  rw [hl] at hlet hrlet
  rw [hm] at hmay hrmay
  rw [hz] at hcmp hrcmp
  clear hS hT hl hm hz
  rcases hcase with h | ⟨h, h2⟩ | ⟨h, h2⟩
  · clear hnum hrnum hlet hrlet hmay hrmay htake hrtake hshow hrshow hcmp hrcmp
    go_enter Tryd.func3, Tryd.ntmps3
    go_wp2_with fail
    refine (works_any hI hB).mono ?_
    rintro e w1 ⟨rfl, hb1⟩
    have hB1 := bstep hB hb1
    go_wp2
    go_ret
    exact ⟨rfl, hB1⟩
  · clear hnum hrnum hlet hrlet hmay hrmay htake hrtake hshow hrshow hcmp hrcmp
    go_enter Tryd.func3, Tryd.ntmps3
    go_wp2_with fail
    refine (works_any hI hB).mono ?_
    rintro e w1 ⟨rfl, hb1⟩
    have hB1 := bstep hB hb1
    go_wp2
    go_ret
    exact ⟨rfl, hB1⟩
  · go_enter Tryd.func3, Tryd.ntmps3
    go_wp2_with (first
      | (go_at_call 10; (with_reducible refine (hnum _).mono ?_); rintro e w' ⟨rfl, rfl⟩)
      | (go_at_call 11; (with_reducible refine (hrnum _).mono ?_); rintro e w' ⟨rfl, rfl⟩)
      | (go_at_call 12; (with_reducible refine (hlet _).mono ?_); rintro e w' ⟨rfl, rfl⟩)
      | (go_at_call 13; (with_reducible refine (hrlet _).mono ?_); rintro e w' ⟨rfl, rfl⟩)
      | (go_at_call 14; (with_reducible refine (hmay _).mono ?_); rintro e w' ⟨rfl, rfl⟩)
      | (go_at_call 15; (with_reducible refine (hrmay _).mono ?_); rintro e w' ⟨rfl, rfl⟩)
      | (go_at_call 16; (with_reducible refine (htake _).mono ?_); rintro e w' ⟨rfl, rfl⟩)
      | (go_at_call 17; (with_reducible refine (hrtake _).mono ?_); rintro e w' ⟨rfl, rfl⟩))
    refine (hshow _ hB).mono ?_
    rintro e w1 ⟨rfl, hb⟩
    have hB1 := bstep hB hb
    clear hb
    go_wp2_with fail
    refine (hrshow _).mono ?_
    rintro e w2 ⟨rfl, hb⟩
    have hB2 := bstep hB1 hb
    clear hb hB1
    go_wp2_with (go_at_call 20; (with_reducible refine (hcmp _).mono ?_); rintro e w' ⟨rfl, rfl⟩)
    refine (hrcmp _).mono ?_
    rintro e w3 ⟨rfl, q, rfl⟩
    have hB3 := bstep hB2 (below_drew _ q)
    clear hB2
    go_wp2_with fail
    refine (works_any hI hB3).mono ?_
    rintro e w4 ⟨rfl, hb⟩
    have hB4 := bstep hB3 hb
    clear hb hB3
    go_wp2
    all_goals
      go_ret
      exact ⟨rfl, hB4⟩

open Go.ChangeShapes Go.WideShapes Go.ChangeAt in
/-- A byte that came in. -/
theorem open_byte {H : Type} {enc : TypeId × Value → H} {W : World} {base : Nat} {v : Value} {d : DataW H} {p : List MemPlace} (hv : Value.okWide Tryd.prog W .any base 5 v) (h : DataW.Trod enc Tryd.prog W 0 (fun _ => true) true 5 v d p) : ∃ c : Nat, v = .int .u8 c := by
  unfold Value.okWide at hv
  rw [Tryd.underlying5] at hv
  obtain ⟨fuel, hf⟩ := h
  obtain ⟨k, e1, _, hwf⟩ := DataW.trod_int Tryd.underlying5 hf
  have hb := bounds_u8 hwf
  obtain ⟨c, rfl⟩ := Int.eq_ofNat_of_zero_le hb.1
  refine ⟨c, ?_⟩
  unfold Cell.okWide at hv
  rw [Tryd.underlying5] at hv
  cases v <;> simp only [Value.cells] at e1 hv <;> first
    | (simp at e1; done)
    | (simp at e1; rw [e1.1, e1.2]; done)
    | (simp at e1; simp [e1]; done)
    | (unfold Cell.ok at hv; rw [Tryd.underlying5] at hv; simp at hv; done)
end Go.Proofs.YtnonpolifipblaaDoor
