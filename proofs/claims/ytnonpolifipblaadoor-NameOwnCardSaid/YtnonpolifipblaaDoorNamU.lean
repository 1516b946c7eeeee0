/- Show and Num: for every number, and every text. -/
import Derived.ScopeJumps
import Derived.WalkMore
import Derived.LaidSub
import Derived.Lib.LaidTab
import Derived.Lib.AppendIntMem
import Derived.Test.YtnonpolifipblaaDoorNamN
import Derived.Test.YtnonpolifipblaaDoorNamI
import Derived.Test.YtnonpolifipblaaDoorNamT
namespace Go.Proofs.YtnonpolifipblaaDoor
open Go.RowKit Go.Shelf

/-- The table of powers of ten, wherever what was there stands. -/
theorem pow_tab {W0 W : World} (h : Inv W0) (hb : Below W0.heap.size W0 W) : Lib.TabIs Tryd.prog W "internal/strconv.uint64pow10" .u64 Lib.pow10Tab := by
  have hL := h.laid.filter fun x => x.1 == "internal/strconv.uint64pow10"
  have e : (laidT.filter fun x => x.1 == "internal/strconv.uint64pow10") = [("internal/strconv.uint64pow10", Rows.laid_internal_strconv_uint64pow10)] := by kernel_rfl
  rw [e] at hL
  have hT : Lib.TabIs Tryd.prog W0 "internal/strconv.uint64pow10" .u64 Lib.pow10Tab := Lib.tabIs_of_head (zs := Lib.pow10Tab) (rest := []) (g := 1) (t := 51) (e := 37) (n := 20) (by kernel_rfl) (by kernel_rfl) Tryd.underlying51 Tryd.underlying37 (by kernel_rfl) (by kernel_rfl) hL
  have hg : Tryd.prog.globalNamed "internal/strconv.uint64pow10" = some 1 := by kernel_rfl
  unfold Lib.TabIs World.var? at hT ⊢
  rw [hg] at hT ⊢
  simp only [Option.bind_some] at hT ⊢
  have hlt : 1 < W0.heap.size := by
    cases hh : W0.heap[1]? with
    | none => rw [hh] at hT; cases hT
    | some o => exact (Array.getElem?_eq_some_iff.1 hh).1
  rw [hb.block _ hlt]
  exact hT

theorem show_any {W0 : World} (h : Inv W0) (n : Int) (h0 : -9223372036854775808 ≤ n) (h1 : n ≤ 9223372036854775807) (w : World) (hb : Below W0.heap.size W0 w) :
    Calls Tryd.prog 18 #[.int .i64 n] w fun e w' => e = .returned (.string ⟨(Lib.itoa n).toArray⟩) ∧ Below w.heap.size w w' := by
  have hc := strconv_Itoa n h0 h1 w (pow_tab h hb)
  go_enter Tryd.func18, Tryd.ntmps18
  go_wp2_with (go_at_call 26; refine hc.mono ?_; rintro e w' ⟨rfl, k, os, rfl⟩)
  go_ret
  exact ⟨rfl, Go.Lib.below_grow _ _ (Nat.le_refl _) _ _⟩

/-- What stands at the label, however it is come to. -/
def AtNone (s : ByteArray) (most : Int) (w : World) (a : Act) (w' : World) : Prop :=
  w' = w ∧ ∃ x2 x3 x4 x5 x6 x7 x8 x9 x10 x11 x12 x13 x14 x15 x16 x17 x18 x19 x20 x21 x22 x23 x24 x25 x26 x27 x28 x29 x30 x31 x32 x33 x34 x35 x36 x37 x38 x39 x40 x41 x42 x43 x44 x45 x46 x47 x48 x49 x50 x51 x52 x53 x54 x55 x56 x57 : Value, a = ⟨#[.string s, .int .i64 most, x2, x3, x4, x5, x6, x7, x8, x9, x10, x11, x12, x13, x14, x15, x16, x17, x18, x19, x20, x21, x22, x23, x24, x25, x26, x27, x28, x29, x30, x31, x32, x33, x34, x35, x36, x37, x38, x39, x40, x41, x42, x43, x44, x45, x46, x47, x48, x49, x50, x51, x52, x53, x54, x55, x56, x57], []⟩

theorem form_false {s : ByteArray} (h : formL s.data.toList = false) (h0 : 0 < s.size) (h1 : ¬ (s[0].toNat = 48 ∧ 1 < s.size)) : ((s.data.toList.takeWhile fun c => digN c.toNat).length) < s.size := by
  have key : ∀ l : List UInt8, formL l = false → (h0 : 0 < l.length) → ¬ (l[0].toNat = 48 ∧ 1 < l.length) → (l.takeWhile fun c => digN c.toNat).length < l.length := fun l hf h0 h1 => by
    rcases Nat.lt_or_ge (l.takeWhile fun c => digN c.toNat).length l.length with h | h
    · exact h
    · exfalso
      have hle := tw_le (p := fun c : UInt8 => digN c.toNat) l
      have hall : digsL l = true := by
        unfold digsL
        rw [List.all_eq_true]
        intro x hx
        have e : l.takeWhile (fun c => digN c.toNat) = l := (List.takeWhile_prefix _).eq_of_length (by omega)
        rw [← e] at hx
        exact of_tw (p := fun c : UInt8 => digN c.toNat) l x hx
      cases l with
      | nil => simp at h0
      | cons a r =>
        rw [formL_cons, hall, Bool.and_true] at hf
        simp at hf
        refine h1 ⟨by simpa using hf.1, ?_⟩
        cases r with
        | nil => exact absurd rfl hf.2
        | cons b r => simp
  exact key _ h h0 h1

theorem ne48 {n : Nat} (h : ¬ n = 48) : ((n : Int) == 48) = false := by simp; omega
theorem eq48 {n : Nat} (h : n = 48) : ((n : Int) == 48) = true := by simp [h]

set_option maxHeartbeats 1000000 in
/-- What is no number's text: told so, first of all. -/
theorem num_none (s : ByteArray) (hs : s.size ≤ maxLen) (hf : formL s.data.toList = false) (most : Int) (w : World) :
    Calls Tryd.prog 10 #[.string s, .int .i64 most] w fun e w' => e = .returned (.tuple #[.int .i64 0, .int .i64 4]) ∧ w' = w := by
  unfold maxLen at hs
  by_cases h0 : s.size = 0
  · have he : s.toList.isEmpty = true := empty_is (by simp [h0])
    clear hf
    go_enter Tryd.func10, Tryd.ntmps10
    go_wp2
    refine wp_scope_jumps 0 (AtNone s most w) (fun _ _ => 0) (by rfl) ?_ ?_
    · go_wp2
      go_step3
      refine ⟨rfl, rfl, ?_⟩
      exact ⟨_, _, _, _, _, _, _, _, _, _, _, _, _, _, _, _, _, _, _, _, _, _, _, _, _, _, _, _, _, _, _, _, _, _, _, _, _, _, _, _, _, _, _, _, _, _, _, _, _, _, _, _, _, _, _, _, rfl⟩
    · intro a w1 h
      obtain ⟨rfl, x2, x3, x4, x5, x6, x7, x8, x9, x10, x11, x12, x13, x14, x15, x16, x17, x18, x19, x20, x21, x22, x23, x24, x25, x26, x27, x28, x29, x30, x31, x32, x33, x34, x35, x36, x37, x38, x39, x40, x41, x42, x43, x44, x45, x46, x47, x48, x49, x50, x51, x52, x53, x54, x55, x56, x57, rfl⟩ := h
      dsimp only
      go_wp2
      simp only [Exit.jump]
      go_ret2
      exact ⟨rfl, rfl⟩
  · have he : s.toList.isEmpty = false := empty_is (by simp [h0])
    have h0 : 0 < s.size := by omega
    by_cases hz : s[0].toNat = 48 ∧ 1 < s.size
    · obtain ⟨hz, h1⟩ := hz
      have hz := eq48 hz
      clear hf
      go_enter Tryd.func10, Tryd.ntmps10
      go_wp2
      refine wp_scope_jumps 0 (AtNone s most w) (fun _ _ => 0) (by rfl) ?_ ?_
      · go_wp2
        go_step3
        refine ⟨rfl, rfl, ?_⟩
        exact ⟨_, _, _, _, _, _, _, _, _, _, _, _, _, _, _, _, _, _, _, _, _, _, _, _, _, _, _, _, _, _, _, _, _, _, _, _, _, _, _, _, _, _, _, _, _, _, _, _, _, _, _, _, _, _, _, _, rfl⟩
      · intro a w1 h
        obtain ⟨rfl, x2, x3, x4, x5, x6, x7, x8, x9, x10, x11, x12, x13, x14, x15, x16, x17, x18, x19, x20, x21, x22, x23, x24, x25, x26, x27, x28, x29, x30, x31, x32, x33, x34, x35, x36, x37, x38, x39, x40, x41, x42, x43, x44, x45, x46, x47, x48, x49, x50, x51, x52, x53, x54, x55, x56, x57, rfl⟩ := h
        dsimp only
        go_wp2
        simp only [Exit.jump]
        go_ret2
        exact ⟨rfl, rfl⟩
    · have hT := form_false hf h0 hz
      have hlt0 := tw_lt (p := fun c : UInt8 => digN c.toNat) s.data.toList
      have hat0 := tw_at (p := fun c : UInt8 => digN c.toNat) s.data.toList
      obtain ⟨T, hTe⟩ : ∃ T, (s.data.toList.takeWhile fun c => digN c.toNat).length = T := ⟨_, rfl⟩
      rw [hTe] at hT hlt0
      have hat : ∀ h : T < s.size, digN s[T].toNat = false := fun h => by subst hTe; exact hat0 h
      have hlt : ∀ k, k < T → ∀ h : k < s.size, digN s[k].toNat = true := fun k hk h => (hlt0 k hk).2
      clear hat0 hlt0 hTe hf
      have hz : ((s[0].toNat : Int) == 48) = false ∨ s.size ≤ 1 := by
        by_cases h : s[0].toNat = 48
        · exact .inr (by omega)
        · exact .inl (ne48 h)
      rcases hz with hz | hz
      all_goals
        go_enter Tryd.func10, Tryd.ntmps10
        go_wp2
        refine wp_scope_jumps 0 (AtNone s most w) (fun _ _ => 0) (by rfl) ?_ ?_
        · go_wp2
          all_goals
            go_loop [6, 7, 8, 9] (fun n d i lg => ∃ (k : Nat) (n0 d0 : Int) (b : Bool), k ≤ T ∧ i = .int .i64 k ∧ n = .int .i64 n0 ∧ d = .int .i64 d0 ∧ lg = .bool b) (fun _ _ i _ => s.size - (intOf i).toNat)
            case atStart => exact ⟨0, 0, 0, false, Nat.zero_le _, rfl, rfl, rfl, rfl⟩
            case round =>
              obtain ⟨k, n0, d0, b, hkT, rfl, rfl, rfl, rfl⟩ := hrel
              by_cases hk : k < T
              · have hks : k < s.size := by omega
                have hd := hlt k hk hks
                have hd1 := (digN_iff _).1 hd
                obtain ⟨hd2, hd3⟩ := hd1
                go_wp2_with (go_at_call 24; refine (digit_is hd _).mono ?_; rintro e w' ⟨rfl, rfl⟩)
                all_goals exact ⟨⟨k + 1, _, _, _, by omega, by go_num, rfl, rfl, rfl⟩, by simp [intOf]; omega⟩
              · obtain rfl : k = T := by omega
                have hd := hat hT
                go_wp2_with (go_at_call 24; refine (digit_is hd _).mono ?_; rintro e w' ⟨rfl, rfl⟩)
                go_step3
                refine ⟨rfl, rfl, ?_⟩
                exact ⟨_, _, _, _, _, _, _, _, _, _, _, _, _, _, _, _, _, _, _, _, _, _, _, _, _, _, _, _, _, _, _, _, _, _, _, _, _, _, _, _, _, _, _, _, _, _, _, _, _, _, _, _, _, _, _, _, rfl⟩
        · intro a w1 h
          obtain ⟨rfl, x2, x3, x4, x5, x6, x7, x8, x9, x10, x11, x12, x13, x14, x15, x16, x17, x18, x19, x20, x21, x22, x23, x24, x25, x26, x27, x28, x29, x30, x31, x32, x33, x34, x35, x36, x37, x38, x39, x40, x41, x42, x43, x44, x45, x46, x47, x48, x49, x50, x51, x52, x53, x54, x55, x56, x57, rfl⟩ := h
          dsimp only
          go_wp2
          simp only [Exit.jump]
          go_ret2
          exact ⟨rfl, rfl⟩


def numN (l : List UInt8) (most : Int) : Int := if (valL l : Int) ≤ most then valL l else 0
def numE (l : List UInt8) (most : Int) : Int := if (valL l : Int) ≤ most then 0 else 40

theorem form_true {s : ByteArray} (h : formL s.data.toList = true) : 0 < s.size ∧ ((∀ h0 : 0 < s.size, ((s[0].toNat : Int) == 48) = false) ∨ s.size ≤ 1) ∧ ∀ k (hk : k < s.size), digN s[k].toNat = true := by
  have key : ∀ l : List UInt8, formL l = true → 0 < l.length ∧ ((∀ h0 : 0 < l.length, ((l[0].toNat : Int) == 48) = false) ∨ l.length ≤ 1) ∧ ∀ k (hk : k < l.length), digN l[k].toNat = true := fun l h => by
    cases l with
    | nil => cases h
    | cons a r =>
      rw [formL_cons, Bool.and_eq_true] at h
      refine ⟨by simp, ?_, fun k hk => ?_⟩
      · by_cases h48 : a.toNat = 48
        · right
          have := h.1
          simp [h48] at this
          simp [this]
        · left
          intro _
          exact ne48 h48
      · have := h.2
        unfold digsL at this
        rw [List.all_eq_true] at this
        exact this _ (List.getElem_mem hk)
  exact key _ h

/-- One digit more. -/
theorem val_next (s : ByteArray) (k : Nat) (h : k < s.size) : valL (s.data.toList.take (k + 1)) = 10 * valL (s.data.toList.take k) + (s[k].toNat - 48) := val_take_succ s.data.toList k h

theorem ret_two {a b a' b' : Int} (h : a = a') (h2 : b = b') : Ending.returned (.tuple #[.int .i64 a, .int .i64 b]) = .returned (.tuple #[.int .i64 a', .int .i64 b']) := by rw [h, h2]

/-- What stands before a round. -/
def NumInv (s : ByteArray) (most : Int) (k : Nat) (n0 : Int) (b : Bool) : Prop :=
  (b = true → most < (valL (s.data.toList.take k) : Int)) ∧ (b = false → n0 = (valL (s.data.toList.take k) : Int) ∧ (k = 0 ∨ (valL (s.data.toList.take k) : Int) ≤ most))

theorem NumInv.large {s : ByteArray} {most : Int} {k : Nat} {n0 n1 : Int} (h : NumInv s most k n0 true) (hk : k < s.size) : NumInv s most (k + 1) n1 true := by
  have h1 := h.1 rfl
  have h2 := val_next s k hk
  exact ⟨fun _ => (by omega), fun h => (by cases h)⟩

theorem NumInv.now {s : ByteArray} {most : Int} {k : Nat} {n0 n1 : Int} (h : NumInv s most k n0 false) (hk : k < s.size) (hd : 48 ≤ s[k].toNat) (hl : most < 10 * n0 + ((s[k].toNat : Int) - 48)) : NumInv s most (k + 1) n1 true := by
  have h1 := (h.2 rfl).1
  have h2 := val_next s k hk
  exact ⟨fun _ => (by omega), fun h => (by cases h)⟩

theorem NumInv.on {s : ByteArray} {most : Int} {k : Nat} {n0 : Int} (h : NumInv s most k n0 false) (hk : k < s.size) (hd : 48 ≤ s[k].toNat) (hl : 10 * n0 + ((s[k].toNat : Int) - 48) ≤ most) : NumInv s most (k + 1) (10 * n0 + ((s[k].toNat : Int) - 48)) false := by
  have h1 := (h.2 rfl).1
  have h2 := val_next s k hk
  exact ⟨fun h => (by cases h), fun _ => ⟨by omega, .inr (by omega)⟩⟩

theorem NumInv.pos {s : ByteArray} {most : Int} {k : Nat} {n0 : Int} (h : NumInv s most k n0 false) : 0 ≤ n0 := by
  have h1 := (h.2 rfl).1
  omega

theorem NumInv.end {s : ByteArray} {most : Int} {n0 : Int} {b : Bool} (h : NumInv s most s.size n0 b) (h0 : 0 < s.size) :
    (b = true → most < (valL s.data.toList : Int)) ∧ (b = false → n0 = (valL s.data.toList : Int) ∧ (valL s.data.toList : Int) ≤ most) := by
  unfold NumInv at h
  rw [show s.data.toList.take s.size = s.data.toList from List.take_of_length_le (Nat.le_refl _)] at h
  exact ⟨h.1, fun hb => ⟨(h.2 hb).1, by have := (h.2 hb).2; omega⟩⟩

set_option maxHeartbeats 1000000 in
/-- What is a number's text: its number, or that it is too large. -/
theorem num_val (s : ByteArray) (hs : s.size ≤ maxLen) (hf : formL s.data.toList = true) (most : Int) (hm0 : -9223372036854775808 ≤ most) (hm1 : most ≤ 9223372036854775807) (w : World) :
    Calls Tryd.prog 10 #[.string s, .int .i64 most] w fun e w' => e = .returned (.tuple #[.int .i64 (numN s.data.toList most), .int .i64 (numE s.data.toList most)]) ∧ w' = w := by
  unfold maxLen at hs
  obtain ⟨h0, hz, hdig⟩ := form_true hf
  have he : s.toList.isEmpty = false := empty_is (by rw [decide_eq_false_iff_not]; omega)
  clear hf
  have hz : ((s[0].toNat : Int) == 48) = false ∨ s.size ≤ 1 := by
    rcases hz with h | h
    · exact .inl (h h0)
    · exact .inr h
  rcases hz with hz | hz
  all_goals
    go_enter Tryd.func10, Tryd.ntmps10
    go_wp2
    go_step3
    go_wp2
    all_goals
      go_loop [6, 7, 8, 9] (fun n d i lg => ∃ (k : Nat) (n0 d0 : Int) (b : Bool), k ≤ s.size ∧ i = .int .i64 k ∧ n = .int .i64 n0 ∧ d = .int .i64 d0 ∧ lg = .bool b ∧
          NumInv s most k n0 b) (fun _ _ i _ => s.size - (intOf i).toNat)
      case atStart => exact ⟨0, 0, 0, false, Nat.zero_le _, rfl, rfl, rfl, rfl, ⟨fun h => (by cases h), fun _ => ⟨rfl, .inl rfl⟩⟩⟩
      case round =>
        obtain ⟨k, n0, d0, b, hkT, rfl, rfl, rfl, rfl, hrl⟩ := hrel
        by_cases hk : k < s.size
        · have hd := hdig k hk
          have hd1 := (digN_iff _).1 hd
          obtain ⟨hd2, hd3⟩ := hd1
          cases b with
          | true =>
            go_wp2_with (go_at_call 24; refine (digit_is hd _).mono ?_; rintro e w' ⟨rfl, rfl⟩)
            all_goals exact ⟨⟨k + 1, _, _, true, by omega, by go_num, rfl, rfl, rfl, hrl.large hk⟩, by simp [intOf]; omega⟩
          | false =>
            have hn0 : 0 ≤ n0 := hrl.pos
            by_cases c1 : most < (s[k].toNat : Int) - 48
            · go_wp2_with (go_at_call 24; refine (digit_is hd _).mono ?_; rintro e w' ⟨rfl, rfl⟩)
              all_goals exact ⟨⟨k + 1, _, _, true, by omega, by go_num, rfl, rfl, rfl, hrl.now hk hd2 (by omega)⟩, by simp [intOf]; omega⟩
            · have c1 : (s[k].toNat : Int) - 48 ≤ most := by omega
              have c1' : 0 ≤ most - ((s[k].toNat : Int) - 48) := by omega
              have c1'' : most - ((s[k].toNat : Int) - 48) ≤ 9223372036854775807 := by omega
              by_cases c2 : (most - ((s[k].toNat : Int) - 48)) / 10 < n0
              · go_wp2_with (go_at_call 24; refine (digit_is hd _).mono ?_; rintro e w' ⟨rfl, rfl⟩)
                all_goals exact ⟨⟨k + 1, _, _, true, by omega, by go_num, rfl, rfl, rfl, hrl.now hk hd2 (by omega)⟩, by simp [intOf]; omega⟩
              · have c2 : n0 ≤ (most - ((s[k].toNat : Int) - 48)) / 10 := by omega
                have c3 : 10 * n0 + ((s[k].toNat : Int) - 48) ≤ most := by omega
                have c4 : 10 * n0 ≤ 9223372036854775807 := by omega
                have c5 : 0 ≤ 10 * n0 := by omega
                go_wp2_with (go_at_call 24; refine (digit_is hd _).mono ?_; rintro e w' ⟨rfl, rfl⟩)
                all_goals exact ⟨⟨k + 1, _, _, false, by omega, by go_num, rfl, rfl, rfl, hrl.on hk hd2 c3⟩, by simp [intOf]; omega⟩
        · obtain rfl : k = s.size := by omega
          cases b with
          | true =>
            go_wp2
            go_ret2
            refine ⟨ret_two ?_ ?_, rfl⟩
            · have := (hrl.end h0).1 rfl
              unfold numN
              rw [if_neg (by omega)]
            · have := (hrl.end h0).1 rfl
              unfold numE
              rw [if_neg (by omega)]
          | false =>
            go_wp2
            go_ret2
            have hle : (valL s.data.toList : Int) ≤ most := ((hrl.end h0).2 rfl).2
            refine ⟨ret_two ?_ ?_, rfl⟩
            · unfold numN
              rw [if_pos hle]
              exact ((hrl.end h0).2 rfl).1
            · unfold numE
              rw [if_pos hle]
end Go.Proofs.YtnonpolifipblaaDoor
