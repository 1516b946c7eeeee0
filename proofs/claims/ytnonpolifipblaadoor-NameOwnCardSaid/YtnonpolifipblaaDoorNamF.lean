/- Names that are free, as plain mathematics: the texts that are tried, that no two are the same, and which one is told. -/
import Derived.Test.YtnonpolifipblaaDoorNamB
namespace Go.Proofs.YtnonpolifipblaaDoor
open Go.RowKit

/-- The text that is tried behind k others. -/
def tryB (stem : ByteArray) (k : Nat) : ByteArray := if k = 0 then stem else stem ++ shB (IntKind.i64.wrap ((k : Int) + 1))

theorem wrap_small {z : Int} (h0 : -9223372036854775808 ≤ z) (h1 : z ≤ 9223372036854775807) : IntKind.i64.wrap z = z := by
  unfold IntKind.wrap IntKind.bits IntKind.signed
  simp
  omega

theorem app_list (a b : ByteArray) : (a ++ b).data.toList = a.data.toList ++ b.data.toList := by
  simp [ByteArray.data_append]

theorem try_zero (stem : ByteArray) : tryB stem 0 = stem := rfl
theorem try_next (stem : ByteArray) (k : Nat) : tryB stem (k + 1) = stem ++ shB (IntKind.i64.wrap ((k : Int) + 2)) := by
  unfold tryB
  rw [if_neg (by omega)]
  congr 3

theorem try_inj {stem : ByteArray} {i j : Nat} (hi : i < 9223372036854775807) (hj : j < 9223372036854775807) (h : tryB stem i = tryB stem j) : i = j := by
  have pos : ∀ k : Nat, k < 9223372036854775807 → k ≠ 0 → 0 < (Lib.itoa (IntKind.i64.wrap ((k : Int) + 1))).length ∧ valL (Lib.itoa (IntKind.i64.wrap ((k : Int) + 1))) = k + 1 := by
    intro k hk h0
    rw [wrap_small (by omega) (by omega)]
    obtain ⟨hf, hv⟩ := itoa_pos (n := (k : Int) + 1) (by omega)
    refine ⟨?_, by omega⟩
    cases hl : Lib.itoa ((k : Int) + 1) with
    | nil => rw [hl] at hf; cases hf
    | cons a l => simp
  have hl : (tryB stem i).data.toList = (tryB stem j).data.toList := by rw [h]
  by_cases h1 : i = 0
  · by_cases h2 : j = 0
    · omega
    · subst h1
      obtain ⟨hp, _⟩ := pos j hj h2
      unfold tryB at hl
      rw [if_pos rfl, if_neg h2, app_list, shB_list] at hl
      have := congrArg List.length hl
      rw [List.length_append] at this
      omega
  · by_cases h2 : j = 0
    · subst h2
      obtain ⟨hp, _⟩ := pos i hi h1
      unfold tryB at hl
      rw [if_pos rfl, if_neg h1, app_list, shB_list] at hl
      have := congrArg List.length hl
      rw [List.length_append] at this
      omega
    · obtain ⟨_, v1⟩ := pos i hi h1
      obtain ⟨_, v2⟩ := pos j hj h2
      unfold tryB at hl
      rw [if_neg h1, if_neg h2, app_list, app_list, shB_list, shB_list] at hl
      rw [List.append_cancel_left hl] at v1
      omega

theorem inj_le {α : Type} [DecidableEq α] (f : Nat → α) : ∀ (k : Nat) (used : List α), (∀ i j, i < k → j < k → f i = f j → i = j) → (∀ j, j < k → f j ∈ used) → k ≤ used.length
  | 0, _, _, _ => by omega
  | k + 1, used, hi, hm => by
    have hk := hm k (by omega)
    have := inj_le f k (used.erase (f k)) (fun i j a b => hi i j (by omega) (by omega)) (fun j hj => by
      refine (List.mem_erase_of_ne ?_).2 (hm j (by omega))
      intro e
      have := hi j k (by omega) (by omega) e
      omega)
    rw [List.length_erase_of_mem hk] at this
    have := List.length_pos_of_mem hk
    omega

/-- All that is tried ahead of k is used. -/
def Had (stem : ByteArray) (used : List ByteArray) (k : Nat) : Prop := ∀ j, j < k → mayB (tryB stem j) = true ∧ tryB stem j ∈ used

theorem Had.zero (stem : ByteArray) (used : List ByteArray) : Had stem used 0 := fun j h => by omega
theorem Had.next {stem : ByteArray} {used : List ByteArray} {k : Nat} (h : Had stem used k) (h1 : mayB (tryB stem k) = true) (h2 : tryB stem k ∈ used) : Had stem used (k + 1) := fun j hj => by
  rcases Nat.lt_succ_iff_lt_or_eq.1 hj with h' | rfl
  · exact h j h'
  · exact ⟨h1, h2⟩

theorem Had.le {stem : ByteArray} {used : List ByteArray} {k : Nat} (h : Had stem used k) (hk : k ≤ 9223372036854775807) : k ≤ used.length :=
  inj_le (tryB stem) k used (fun _ _ hi hj => try_inj (by omega) (by omega)) fun j hj => (h j hj).2

/-- What is free of a stem's names. -/
def IsFree (stem : ByteArray) (used : List ByteArray) (r : ByteArray) : Prop :=
  ∃ k, k ≤ used.length ∧ Had stem used k ∧ ((mayB (tryB stem k) = false ∧ r = ⟨#[]⟩) ∨ (mayB (tryB stem k) = true ∧ tryB stem k ∉ used ∧ r = tryB stem k))

theorem IsFree.unique {stem : ByteArray} {used : List ByteArray} {r s : ByteArray} (h : IsFree stem used r) (h' : IsFree stem used s) : r = s := by
  obtain ⟨k, _, hk, hr⟩ := h
  obtain ⟨m, _, hm, hs⟩ := h'
  have no : ∀ {a b : Nat} {x : ByteArray}, Had stem used b → a < b → ((mayB (tryB stem a) = false ∧ x = ⟨#[]⟩) ∨ (mayB (tryB stem a) = true ∧ tryB stem a ∉ used ∧ x = tryB stem a)) → False := by
    intro a b x hb hlt hx
    obtain ⟨h1, h2⟩ := hb a hlt
    rcases hx with ⟨h3, _⟩ | ⟨_, h3, _⟩
    · rw [h1] at h3; cases h3
    · exact h3 h2
  rcases Nat.lt_trichotomy k m with h | rfl | h
  · exact (no hm h hr).elim
  · rcases hr with ⟨a, rfl⟩ | ⟨a, b, rfl⟩ <;> rcases hs with ⟨c, rfl⟩ | ⟨c, d, rfl⟩
    · rfl
    · rw [a] at c; cases c
    · rw [a] at c; cases c
    · rfl
  · exact (no hk h hs).elim

theorem tkL_full : ∀ (l : List UInt8) (d : UInt8), l ≠ [] → tkL l = l.length → inN d.toNat = true → tkL (l ++ [d]) = l.length + 1
  | [], _, h, _, _ => (h rfl).elim
  | a :: l, d, _, h, hd => by
    by_cases ha : letN a.toNat = true
    · rw [tkL_yes l ha] at h
      rw [List.cons_append, tkL_yes _ ha]
      have hl : (l.takeWhile fun c => inN c.toNat).length = l.length := by simpa using h
      have hall : ∀ x ∈ l, inN x.toNat = true := by
        intro x hx
        have e : l.takeWhile (fun c => inN c.toNat) = l := (List.takeWhile_prefix _).eq_of_length hl
        rw [← e] at hx
        exact of_tw l x hx
      rw [take_all (l ++ [d]) fun x hx => by
        rcases List.mem_append.1 hx with hx | hx
        · exact hall x hx
        · obtain rfl : x = d := by simpa using hx
          exact hd]
      simp
    · rw [tkL_no l ha] at h; simp at h

theorem may_digit {s t : ByteArray} {d : UInt8} (h : mayB s = true) (hs : s.size ≤ 31) (ht : t.data.toList = [d]) (hd : inN d.toNat = true) : mayB (s ++ t) = true := by
  unfold mayB at h ⊢
  simp only [Bool.and_eq_true, decide_eq_true_eq] at h ⊢
  obtain ⟨⟨h0, h1⟩, h2⟩ := h
  have hl : (s ++ t).data.toList = s.data.toList ++ [d] := by rw [app_list, ht]
  have hz : (s ++ t).size = s.size + 1 := by rw [← size_list, hl, List.length_append, size_list]; rfl
  refine ⟨⟨by omega, by omega⟩, ?_⟩
  unfold tk
  rw [hl, hz]
  refine tkL_full _ d ?_ h2 hd
  intro e
  have := size_list s
  rw [e] at this
  simp at this
  omega

/-- Of a stem that is a name, and not too long, with few texts that are used, one is free. -/
theorem IsFree.some {stem r : ByteArray} {used : List ByteArray} (h : IsFree stem used r) (hm : mayB stem = true) (hs : stem.size ≤ 28) (hu : used.length ≤ 3) : 0 < r.size := by
  obtain ⟨k, hk, hh, hr⟩ := h
  have pos : ∀ s : ByteArray, mayB s = true → 0 < s.size := fun s h => by
    unfold mayB at h
    simp only [Bool.and_eq_true, decide_eq_true_eq] at h
    exact h.1.1
  rcases hr with ⟨hn, rfl⟩ | ⟨ht, _, rfl⟩
  · exfalso
    have : mayB (tryB stem k) = true := by
      have hc : k = 0 ∨ k = 1 ∨ k = 2 ∨ k = 3 := by omega
      rcases hc with rfl | rfl | rfl | rfl
      · exact hm
      · exact may_digit (d := 50) hm (by omega) (by rw [shB_list]; decide +kernel) (by decide)
      · exact may_digit (d := 51) hm (by omega) (by rw [shB_list]; decide +kernel) (by decide)
      · exact may_digit (d := 52) hm (by omega) (by rw [shB_list]; decide +kernel) (by decide)
    rw [hn] at this
    cases this
  · exact pos _ ht

theorem IsFree.own {stem r : ByteArray} {used : List ByteArray} (h : IsFree stem used r) (h0 : 0 < r.size) :
    mayB r = true ∧ r ∉ used ∧ stem.data.toList <+: r.data.toList := by
  obtain ⟨k, _, _, hr⟩ := h
  rcases hr with ⟨_, rfl⟩ | ⟨ht, hn, rfl⟩
  · exact absurd h0 (by decide)
  · refine ⟨ht, hn, ?_⟩
    unfold tryB
    split
    · exact List.prefix_rfl
    · rw [app_list]; exact List.prefix_append _ _

theorem IsFree.other {stem r s : ByteArray} {used : List ByteArray} (h0 : 0 < r.size) (h : IsFree stem (used ++ [r]) s) : s ≠ r := by
  rintro rfl
  exact (h.own h0).2.1 (by simp)

/-- A number below 0 makes no name. -/
theorem no_name (stem : ByteArray) {n : Int} (h : n < 0) : mayB (stem ++ shB n) = false := by
  rw [Bool.eq_false_iff]
  intro hm
  unfold mayB at hm
  simp only [Bool.and_eq_true, decide_eq_true_eq] at hm
  obtain ⟨⟨h0, _⟩, h2⟩ := hm
  have e : (stem ++ shB n).data.toList = stem.data.toList ++ 45 :: Lib.decDigits n.natAbs := by
    rw [app_list, shB_list]; unfold Lib.itoa; rw [if_pos h]
  unfold tk at h2
  rw [← size_list, e] at h2
  have hd : inN (45 : UInt8).toNat = false := by decide
  have hl : letN (45 : UInt8).toNat = false := by decide
  cases hs : stem.data.toList with
  | nil =>
    rw [hs, List.nil_append, tkL_no _ (by rw [hl]; simp)] at h2
    simp at h2
  | cons a l =>
    rw [hs, List.cons_append] at h2
    by_cases ha : letN a.toNat = true
    · rw [tkL_yes _ ha] at h2
      have : ((l ++ 45 :: Lib.decDigits n.natAbs).takeWhile fun c => inN c.toNat).length = (l ++ 45 :: Lib.decDigits n.natAbs).length := by
        simp only [List.length_cons] at h2; omega
      have e2 := (List.takeWhile_prefix (fun c : UInt8 => inN c.toNat) (l := l ++ 45 :: Lib.decDigits n.natAbs)).eq_of_length this
      have hx := of_tw (p := fun c : UInt8 => inN c.toNat) (l ++ 45 :: Lib.decDigits n.natAbs) 45 (by rw [e2]; simp)
      rw [hd] at hx
      cases hx
    · rw [tkL_no _ ha] at h2
      simp at h2
end Go.Proofs.YtnonpolifipblaaDoor
