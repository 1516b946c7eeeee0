/- NameBack's walk. -/
import Derived.Test.YtnonpolifipblaaDoorNamU
namespace Go.Proofs.YtnonpolifipblaaDoor
open Go.RowKit Go.Shelf

theorem dec_short (u : Nat) : (Lib.decDigits u).length ≤ u / 2 + 2 := by
  induction u using Nat.strongRecOn with
  | _ u ih =>
    by_cases h : u < 10
    · rw [dec_one h]; simp
    · rw [dec_more h, List.length_append]
      have := ih (u / 10) (by omega)
      simp only [List.length_cons, List.length_nil]
      omega

/-- A number's text. -/
def shB (n : Int) : ByteArray := ⟨(Lib.itoa n).toArray⟩

theorem shB_list (n : Int) : (shB n).data.toList = Lib.itoa n := by unfold shB; simp

theorem shB_size (n : Int) (h0 : -9223372036854775808 ≤ n) (h1 : n ≤ 9223372036854775807) : (shB n).size ≤ maxLen := by
  rw [← size_list, shB_list]
  unfold Lib.itoa maxLen
  split
  · have := dec_short n.natAbs
    simp only [List.length_cons]
    omega
  · have := dec_short n.toNat
    omega

theorem itoa_neg {n : Int} (h : n < 0) : formL (Lib.itoa n) = false := by
  unfold Lib.itoa
  rw [if_pos h, formL_cons]
  have : digsL (45 :: Lib.decDigits n.natAbs) = false := by
    unfold digsL
    rw [List.all_cons]
    have : digN (45 : UInt8).toNat = false := by decide
    rw [this]; rfl
  rw [this]; simp

theorem itoa_pos {n : Int} (h : 0 ≤ n) : formL (Lib.itoa n) = true ∧ (valL (Lib.itoa n) : Int) = n := by
  unfold Lib.itoa
  rw [if_neg (by omega)]
  exact ⟨dec_form _, by rw [(dec_ok n.toNat).1]; omega⟩

/-- What Num tells of a number's own text. -/
theorem num_shown (n most : Int) (h0 : -9223372036854775808 ≤ n) (h1 : n ≤ 9223372036854775807) (hm0 : -9223372036854775808 ≤ most) (hm1 : most ≤ 9223372036854775807) (x e : Int)
    (h : (n < 0 ∧ x = 0 ∧ e = 4) ∨ (0 ≤ n ∧ n ≤ most ∧ x = n ∧ e = 0) ∨ (0 ≤ n ∧ most < n ∧ x = 0 ∧ e = 40)) (w : World) :
    Calls Tryd.prog 10 #[.string (shB n), .int .i64 most] w fun r w' => r = .returned (.tuple #[.int .i64 x, .int .i64 e]) ∧ w' = w := by
  have hs := shB_size n h0 h1
  rcases h with ⟨hn, rfl, rfl⟩ | ⟨hn, hle, rfl, rfl⟩ | ⟨hn, hlt, rfl, rfl⟩
  · exact num_none (shB n) hs (by rw [shB_list]; exact itoa_neg hn) most w
  · obtain ⟨hf, hv⟩ := itoa_pos hn
    have := num_val (shB x) hs (by rw [shB_list]; exact hf) most hm0 hm1 w
    unfold numN numE at this
    rw [shB_list, hv, if_pos hle, if_pos hle] at this
    exact this
  · obtain ⟨hf, hv⟩ := itoa_pos hn
    have := num_val (shB n) hs (by rw [shB_list]; exact hf) most hm0 hm1 w
    unfold numN numE at this
    rw [shB_list, hv, if_neg (by omega), if_neg (by omega)] at this
    exact this

/-- What Num tells of a text, and what Show tells of that. -/
theorem num_cases (s : ByteArray) (hs : s.size ≤ maxLen) (most : Int) (hm0 : -9223372036854775808 ≤ most) (hm1 : most ≤ 9223372036854775807) :
    ∃ y f : Int, (∀ w : World, Calls Tryd.prog 10 #[.string s, .int .i64 most] w fun r w' => r = .returned (.tuple #[.int .i64 y, .int .i64 f]) ∧ w' = w) ∧
      ((y = 0 ∧ f = 4) ∨ (y = 0 ∧ f = 40) ∨ (f = 0 ∧ 0 ≤ y ∧ y ≤ most ∧ ((shB y).toList == s.toList) = true)) := by
  cases hf : formL s.data.toList with
  | false => exact ⟨0, 4, fun w => num_none s hs hf most w, .inl ⟨rfl, rfl⟩⟩
  | true =>
    have := num_val s hs hf most hm0 hm1
    by_cases hle : (valL s.data.toList : Int) ≤ most
    · unfold numN numE at this
      rw [if_pos hle, if_pos hle] at this
      refine ⟨valL s.data.toList, 0, this, .inr (.inr ⟨rfl, by omega, hle, ?_⟩)⟩
      rw [beq_iff_eq, ByteArray.toList_eq, ByteArray.toList_eq, shB_list]
      unfold Lib.itoa
      rw [if_neg (by omega), show ((valL s.data.toList : Int)).toNat = valL s.data.toList from by omega]
      exact dec_back _ _ rfl hf
    · unfold numN numE at this
      rw [if_neg hle, if_neg hle] at this
      exact ⟨0, 40, this, .inr (.inl ⟨rfl, rfl⟩)⟩

theorem show_sh {W0 : World} (h : Inv W0) (n : Int) (h0 : -9223372036854775808 ≤ n) (h1 : n ≤ 9223372036854775807) (w : World) (hb : Below W0.heap.size W0 w) :
    Calls Tryd.prog 18 #[.int .i64 n] w fun e w' => e = .returned (.string (shB n)) ∧ Below w.heap.size w w' := show_any h n h0 h1 w hb

open Go.ChangeShapes Go.WideShapes Go.ChangeAt in
/-- A number that came in. -/
theorem open_int {H : Type} {enc : TypeId × Value → H} {W : World} {base : Nat} {v : Value} {d : DataW H} {p : List MemPlace} (hv : Value.okWide Tryd.prog W .any base 3 v) (h : DataW.Trod enc Tryd.prog W 0 (fun _ => true) true 3 v d p) : ∃ n : Int, v = .int .i64 n ∧ -9223372036854775808 ≤ n ∧ n ≤ 9223372036854775807 := by
  unfold Value.okWide at hv
  rw [Tryd.underlying3] at hv
  obtain ⟨fuel, hf⟩ := h
  obtain ⟨k, e1, _, hwf⟩ := DataW.trod_int Tryd.underlying3 hf
  have hb := bounds_i64 hwf
  refine ⟨k, ?_, by omega, by omega⟩
  unfold Cell.okWide at hv
  rw [Tryd.underlying3] at hv
  cases v <;> simp only [Value.cells] at e1 hv <;> first
    | (simp at e1; done)
    | (simp at e1; rw [e1.1, e1.2]; done)
    | (simp at e1; simp [e1]; done)
    | (unfold Cell.ok at hv; rw [Tryd.underlying3] at hv; simp at hv; done)

set_option maxRecDepth 100000 in
set_option maxHeartbeats 1000000 in
theorem back_walk (n most : Int) (s : ByteArray) (h0 : -9223372036854775808 ≤ n) (h1 : n ≤ 9223372036854775807) (hm0 : -9223372036854775808 ≤ most) (hm1 : most ≤ 9223372036854775807) (hs : s.size ≤ maxLen) (w : World) (hI : Inv w) :
    Calls Tryd.prog 5 #[.int .i64 n, .int .i64 most, .string s] w fun e w' => e = .returned (.bool true) ∧ Below w.heap.size w w' := by
  have hB : Below w.heap.size w w := Below.refl _ _
  by_cases hlong : 5000 < s.size
  · go_enter Tryd.func5, Tryd.ntmps5
    go_wp2_with fail
    refine (works_any hI hB).mono ?_
    rintro e w1 ⟨rfl, hb1⟩
    have hB1 := bstep hB hb1
    clear hb1 hB
    go_wp2_with fail
    refine (works_any hI hB1).mono ?_
    rintro e w2 ⟨rfl, hb2⟩
    have hB2 := bstep hB1 hb2
    go_wp2
    go_ret
    exact ⟨rfl, hB2⟩
  · have hlong : s.size ≤ 5000 := by omega
    obtain ⟨y, f, hnum, hy⟩ := num_cases s hs most hm0 hm1
    have hsh := num_shown n most h0 h1 hm0 hm1
    obtain ⟨S, hS⟩ : ∃ S, shB n = S := ⟨_, rfl⟩
    have hshow : ∀ w1 : World, Below w.heap.size w w1 → Calls Tryd.prog 18 #[.int .i64 n] w1 fun e w' => e = .returned (.string S) ∧ Below w1.heap.size w1 w' := fun w1 hb => by rw [← hS]; exact show_sh hI n h0 h1 w1 hb
    rw [hS] at hsh
    clear hS
    have hcase : (n < 0) ∨ (0 ≤ n ∧ n ≤ most) ∨ (0 ≤ n ∧ most < n) := by omega
    have hsh2 : -9223372036854775808 ≤ y → y ≤ 9223372036854775807 → ∀ w1 : World, Below w.heap.size w w1 → Calls Tryd.prog 18 #[.int .i64 y] w1 fun e w' => e = .returned (.string (shB y)) ∧ Below w1.heap.size w1 w' := fun a b w1 hb => show_sh hI y a b w1 hb
    rcases hcase with hn | ⟨hn, hn2⟩ | ⟨hn, hn2⟩
    · have hx := hsh (0) 4 (.inl ⟨hn, rfl, rfl⟩)
      clear hsh
      rcases hy with ⟨rfl, rfl⟩ | ⟨rfl, rfl⟩ | ⟨rfl, hy0, hy1, hy2⟩
      · clear hsh2
        skip
        go_enter Tryd.func5, Tryd.ntmps5
        go_wp2_with fail
        refine (works_any hI hB).mono ?_
        rintro e w1 ⟨rfl, hb1⟩
        have hB1 := bstep hB hb1
        clear hb1 hB
        go_wp2_with fail
        refine (hshow _ hB1).mono ?_
        rintro e w2 ⟨rfl, hb2⟩
        have hB2 := bstep hB1 hb2
        clear hb2 hB1 hshow
        go_wp2_with (first
          | (go_at_call 10; (with_reducible refine (hx _).mono ?_); rintro e w' ⟨rfl, rfl⟩)
          | (go_at_call 10; (with_reducible refine (hnum _).mono ?_); rintro e w' ⟨rfl, rfl⟩))
        all_goals
          go_ret
          exact ⟨rfl, hB2⟩
      · clear hsh2
        skip
        go_enter Tryd.func5, Tryd.ntmps5
        go_wp2_with fail
        refine (works_any hI hB).mono ?_
        rintro e w1 ⟨rfl, hb1⟩
        have hB1 := bstep hB hb1
        clear hb1 hB
        go_wp2_with fail
        refine (hshow _ hB1).mono ?_
        rintro e w2 ⟨rfl, hb2⟩
        have hB2 := bstep hB1 hb2
        clear hb2 hB1 hshow
        go_wp2_with (first
          | (go_at_call 10; (with_reducible refine (hx _).mono ?_); rintro e w' ⟨rfl, rfl⟩)
          | (go_at_call 10; (with_reducible refine (hnum _).mono ?_); rintro e w' ⟨rfl, rfl⟩))
        all_goals
          go_ret
          exact ⟨rfl, hB2⟩
      · have hshow2 := hsh2 (by omega) (by omega)
        clear hsh2
        go_enter Tryd.func5, Tryd.ntmps5
        go_wp2_with fail
        refine (works_any hI hB).mono ?_
        rintro e w1 ⟨rfl, hb1⟩
        have hB1 := bstep hB hb1
        clear hb1 hB
        go_wp2_with fail
        refine (hshow _ hB1).mono ?_
        rintro e w2 ⟨rfl, hb2⟩
        have hB2 := bstep hB1 hb2
        clear hb2 hB1 hshow
        go_wp2_with (first
          | (go_at_call 10; (with_reducible refine (hx _).mono ?_); rintro e w' ⟨rfl, rfl⟩)
          | (go_at_call 10; (with_reducible refine (hnum _).mono ?_); rintro e w' ⟨rfl, rfl⟩))
        all_goals
          refine (hshow2 _ hB2).mono ?_
          rintro e w3 ⟨rfl, hb3⟩
          have hB3 := bstep hB2 hb3
          clear hb3 hB2 hshow2
          go_wp2_with fail
          all_goals
            go_ret
            exact ⟨rfl, hB3⟩
    · have hx := hsh (n) 0 (.inr (.inl ⟨hn, hn2, rfl, rfl⟩))
      clear hsh
      rcases hy with ⟨rfl, rfl⟩ | ⟨rfl, rfl⟩ | ⟨rfl, hy0, hy1, hy2⟩
      · clear hsh2
        skip
        go_enter Tryd.func5, Tryd.ntmps5
        go_wp2_with fail
        refine (works_any hI hB).mono ?_
        rintro e w1 ⟨rfl, hb1⟩
        have hB1 := bstep hB hb1
        clear hb1 hB
        go_wp2_with fail
        refine (hshow _ hB1).mono ?_
        rintro e w2 ⟨rfl, hb2⟩
        have hB2 := bstep hB1 hb2
        clear hb2 hB1 hshow
        go_wp2_with (first
          | (go_at_call 10; (with_reducible refine (hx _).mono ?_); rintro e w' ⟨rfl, rfl⟩)
          | (go_at_call 10; (with_reducible refine (hnum _).mono ?_); rintro e w' ⟨rfl, rfl⟩))
        all_goals
          go_ret
          exact ⟨rfl, hB2⟩
      · clear hsh2
        skip
        go_enter Tryd.func5, Tryd.ntmps5
        go_wp2_with fail
        refine (works_any hI hB).mono ?_
        rintro e w1 ⟨rfl, hb1⟩
        have hB1 := bstep hB hb1
        clear hb1 hB
        go_wp2_with fail
        refine (hshow _ hB1).mono ?_
        rintro e w2 ⟨rfl, hb2⟩
        have hB2 := bstep hB1 hb2
        clear hb2 hB1 hshow
        go_wp2_with (first
          | (go_at_call 10; (with_reducible refine (hx _).mono ?_); rintro e w' ⟨rfl, rfl⟩)
          | (go_at_call 10; (with_reducible refine (hnum _).mono ?_); rintro e w' ⟨rfl, rfl⟩))
        all_goals
          go_ret
          exact ⟨rfl, hB2⟩
      · have hshow2 := hsh2 (by omega) (by omega)
        clear hsh2
        go_enter Tryd.func5, Tryd.ntmps5
        go_wp2_with fail
        refine (works_any hI hB).mono ?_
        rintro e w1 ⟨rfl, hb1⟩
        have hB1 := bstep hB hb1
        clear hb1 hB
        go_wp2_with fail
        refine (hshow _ hB1).mono ?_
        rintro e w2 ⟨rfl, hb2⟩
        have hB2 := bstep hB1 hb2
        clear hb2 hB1 hshow
        go_wp2_with (first
          | (go_at_call 10; (with_reducible refine (hx _).mono ?_); rintro e w' ⟨rfl, rfl⟩)
          | (go_at_call 10; (with_reducible refine (hnum _).mono ?_); rintro e w' ⟨rfl, rfl⟩))
        all_goals
          refine (hshow2 _ hB2).mono ?_
          rintro e w3 ⟨rfl, hb3⟩
          have hB3 := bstep hB2 hb3
          clear hb3 hB2 hshow2
          go_wp2_with fail
          all_goals
            go_ret
            exact ⟨rfl, hB3⟩
    · have hx := hsh (0) 40 (.inr (.inr ⟨hn, hn2, rfl, rfl⟩))
      clear hsh
      rcases hy with ⟨rfl, rfl⟩ | ⟨rfl, rfl⟩ | ⟨rfl, hy0, hy1, hy2⟩
      · clear hsh2
        skip
        go_enter Tryd.func5, Tryd.ntmps5
        go_wp2_with fail
        refine (works_any hI hB).mono ?_
        rintro e w1 ⟨rfl, hb1⟩
        have hB1 := bstep hB hb1
        clear hb1 hB
        go_wp2_with fail
        refine (hshow _ hB1).mono ?_
        rintro e w2 ⟨rfl, hb2⟩
        have hB2 := bstep hB1 hb2
        clear hb2 hB1 hshow
        go_wp2_with (first
          | (go_at_call 10; (with_reducible refine (hx _).mono ?_); rintro e w' ⟨rfl, rfl⟩)
          | (go_at_call 10; (with_reducible refine (hnum _).mono ?_); rintro e w' ⟨rfl, rfl⟩))
        all_goals
          go_ret
          exact ⟨rfl, hB2⟩
      · clear hsh2
        skip
        go_enter Tryd.func5, Tryd.ntmps5
        go_wp2_with fail
        refine (works_any hI hB).mono ?_
        rintro e w1 ⟨rfl, hb1⟩
        have hB1 := bstep hB hb1
        clear hb1 hB
        go_wp2_with fail
        refine (hshow _ hB1).mono ?_
        rintro e w2 ⟨rfl, hb2⟩
        have hB2 := bstep hB1 hb2
        clear hb2 hB1 hshow
        go_wp2_with (first
          | (go_at_call 10; (with_reducible refine (hx _).mono ?_); rintro e w' ⟨rfl, rfl⟩)
          | (go_at_call 10; (with_reducible refine (hnum _).mono ?_); rintro e w' ⟨rfl, rfl⟩))
        all_goals
          go_ret
          exact ⟨rfl, hB2⟩
      · have hshow2 := hsh2 (by omega) (by omega)
        clear hsh2
        go_enter Tryd.func5, Tryd.ntmps5
        go_wp2_with fail
        refine (works_any hI hB).mono ?_
        rintro e w1 ⟨rfl, hb1⟩
        have hB1 := bstep hB hb1
        clear hb1 hB
        go_wp2_with fail
        refine (hshow _ hB1).mono ?_
        rintro e w2 ⟨rfl, hb2⟩
        have hB2 := bstep hB1 hb2
        clear hb2 hB1 hshow
        go_wp2_with (first
          | (go_at_call 10; (with_reducible refine (hx _).mono ?_); rintro e w' ⟨rfl, rfl⟩)
          | (go_at_call 10; (with_reducible refine (hnum _).mono ?_); rintro e w' ⟨rfl, rfl⟩))
        all_goals
          refine (hshow2 _ hB2).mono ?_
          rintro e w3 ⟨rfl, hb3⟩
          have hB3 := bstep hB2 hb3
          clear hb3 hB2 hshow2
          go_wp2_with fail
          all_goals
            go_ret
            exact ⟨rfl, hB3⟩
end Go.Proofs.YtnonpolifipblaaDoor
