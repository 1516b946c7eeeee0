/- Names, as plain mathematics: letters, digits, and what is taken. -/
import Derived.Test.YtnonpolifipblaaDoorNamS
namespace Go.Proofs.YtnonpolifipblaaDoor

def letN (n : Nat) : Bool := decide (97 ≤ n) && decide (n ≤ 122) || decide (65 ≤ n) && decide (n ≤ 90) || decide (n = 95)
def digN (n : Nat) : Bool := decide (48 ≤ n) && decide (n ≤ 57)
def inN (n : Nat) : Bool := letN n || digN n

theorem tw_lt {α : Type} {p : α → Bool} : ∀ (l : List α) (k : Nat), k < (l.takeWhile p).length → ∃ h : k < l.length, p l[k] = true
  | [], k, h => by simp at h
  | a :: l, k, h => by
    by_cases ha : p a = true
    · rw [List.takeWhile_cons_of_pos ha, List.length_cons] at h
      cases k with
      | zero => exact ⟨by simp, ha⟩
      | succ k =>
        obtain ⟨h1, h2⟩ := tw_lt (p := p) l k (by omega)
        exact ⟨by simp; omega, by simpa using h2⟩
    · rw [List.takeWhile_cons_of_neg ha] at h
      simp at h

theorem tw_at {α : Type} {p : α → Bool} : ∀ (l : List α) (h : (l.takeWhile p).length < l.length), p l[(l.takeWhile p).length] = false
  | [], h => by simp at h
  | a :: l, h => by
    by_cases ha : p a = true
    · have e : ((a :: l).takeWhile p).length = (l.takeWhile p).length + 1 := by rw [List.takeWhile_cons_of_pos ha, List.length_cons]
      have h' : (l.takeWhile p).length < l.length := by rw [e] at h; simpa using h
      have := tw_at l h'
      simpa [e] using this
    · have e : ((a :: l).takeWhile p).length = 0 := by rw [List.takeWhile_cons_of_neg ha]; rfl
      simpa [e] using ha

theorem tw_le {α : Type} {p : α → Bool} (l : List α) : (l.takeWhile p).length ≤ l.length := (List.takeWhile_prefix p).length_le

/-- How many bytes are taken of those. -/
def tkL : List UInt8 → Nat
  | [] => 0
  | a :: l => if letN a.toNat then (l.takeWhile fun c => inN c.toNat).length + 1 else 0

def tk (s : ByteArray) : Nat := tkL s.data.toList

theorem tkL_yes {a : UInt8} (l : List UInt8) (h : letN a.toNat = true) : tkL (a :: l) = (l.takeWhile fun c => inN c.toNat).length + 1 := by
  show (if letN a.toNat then _ else _) = _
  rw [if_pos h]

theorem tkL_no {a : UInt8} (l : List UInt8) (h : ¬ letN a.toNat = true) : tkL (a :: l) = 0 := by
  show (if letN a.toNat then _ else _) = _
  rw [if_neg h]

theorem tkL_le (l : List UInt8) : tkL l ≤ l.length := by
  cases l with
  | nil => simp [tkL]
  | cons a l =>
    by_cases h : letN a.toNat = true
    · rw [tkL_yes l h]
      have := tw_le (p := fun c : UInt8 => inN c.toNat) l
      simp; exact this
    · rw [tkL_no l h]; simp

theorem tk_le (s : ByteArray) : tk s ≤ s.size := tkL_le _

theorem size_list (s : ByteArray) : s.data.toList.length = s.size := rfl

theorem get_list (s : ByteArray) (k : Nat) (h : k < s.size) : s.data.toList[k]'h = s[k] := rfl

theorem headL : ∀ (l : List UInt8) (h : 0 < l.length), letN l[0].toNat = decide (0 < tkL l)
  | [], h => by simp at h
  | a :: l, _ => by
    by_cases h : letN a.toNat = true
    · rw [tkL_yes l h]; simp [h]
    · rw [tkL_no l h]; simp [h]

theorem ltL : ∀ (l : List UInt8) (k : Nat) (hs : k < l.length), 1 ≤ k → k < tkL l → inN l[k].toNat = true
  | [], _, hs, _, _ => by simp at hs
  | a :: l, k, hs, h1, h => by
    by_cases ha : letN a.toNat = true
    · rw [tkL_yes l ha] at h
      cases k with
      | zero => omega
      | succ k =>
        obtain ⟨_, h2⟩ := tw_lt (p := fun c : UInt8 => inN c.toNat) l k (by omega)
        simp only [List.getElem_cons_succ]
        exact h2
    · rw [tkL_no l ha] at h; omega

theorem atL : ∀ (l : List UInt8) (k : Nat) (hs : k < l.length), 1 ≤ k → k = tkL l → inN l[k].toNat = false
  | [], _, hs, _, _ => by simp at hs
  | a :: l, k, hs, h1, h => by
    by_cases ha : letN a.toNat = true
    · rw [tkL_yes l ha] at h
      subst h
      simp only [List.getElem_cons_succ]
      exact tw_at (p := fun c : UInt8 => inN c.toNat) l (by simpa using hs)
    · rw [tkL_no l ha] at h; omega

/-- The first one is a letter, if there is one that is taken. -/
theorem tk_head (s : ByteArray) (h : 0 < s.size) : letN s[0].toNat = decide (0 < tk s) := headL s.data.toList h

theorem tk_lt (s : ByteArray) (k : Nat) (h1 : 1 ≤ k) (h : k < tk s) : ∃ hs : k < s.size, inN s[k].toNat = true :=
  ⟨Nat.lt_of_lt_of_le h (tk_le s), ltL s.data.toList k _ h1 h⟩

theorem tk_at (s : ByteArray) (k : Nat) (h1 : 1 ≤ k) (e : k = tk s) (h : k < s.size) : inN s[k].toNat = false := atL s.data.toList k h h1 e

theorem take_all {α : Type} {p : α → Bool} : ∀ l : List α, (∀ x ∈ l, p x = true) → l.takeWhile p = l
  | [], _ => rfl
  | a :: l, h => by rw [List.takeWhile_cons_of_pos (h a (by simp)), take_all l fun x hx => h x (by simp [hx])]

theorem of_tw {α : Type} {p : α → Bool} : ∀ (l : List α) (x : α), x ∈ l.takeWhile p → p x = true
  | [], _, h => by simp at h
  | a :: l, x, h => by
    by_cases ha : p a = true
    · rw [List.takeWhile_cons_of_pos ha] at h
      rcases List.mem_cons.1 h with rfl | h
      · exact ha
      · exact of_tw l x h
    · rw [List.takeWhile_cons_of_neg ha] at h; cases h

/-- Of what is taken all is taken. -/
theorem tkL_take (l : List UInt8) : tkL (l.take (tkL l)) = tkL l := by
  cases l with
  | nil => rfl
  | cons a l =>
    by_cases ha : letN a.toNat = true
    · rw [tkL_yes l ha, List.take_succ_cons]
      have e2 : l.take (l.takeWhile fun c => inN c.toNat).length = l.takeWhile fun c => inN c.toNat := by
        have := List.takeWhile_prefix (fun c : UInt8 => inN c.toNat) (l := l)
        exact (List.prefix_iff_eq_take.1 this).symm
      rw [e2, tkL_yes _ ha, take_all _ fun x hx => of_tw l x hx]
    · rw [tkL_no l ha]; rfl

/-- What is taken of a text. -/
def tkB (s : ByteArray) : ByteArray := s.extract 0 (tk s)

theorem tkB_list (s : ByteArray) : (tkB s).data.toList = s.data.toList.take (tk s) := by
  unfold tkB
  simp [ByteArray.data_extract]

theorem tkB_size (s : ByteArray) : (tkB s).size = tk s := by
  rw [← size_list, tkB_list, List.length_take, size_list]
  exact Nat.min_eq_left (tk_le s)

theorem tk_tkB (s : ByteArray) : tk (tkB s) = tk s := by
  unfold tk
  rw [tkB_list]
  exact tkL_take _

/-- Is it a name? -/
def mayB (s : ByteArray) : Bool := decide (0 < s.size) && decide (s.size ≤ 32) && decide (tk s = s.size)

theorem may_tkB (s : ByteArray) : mayB (tkB s) = (decide (0 < tk s) && decide (tk s ≤ 32)) := by
  unfold mayB
  rw [tkB_size, tk_tkB]
  simp
end Go.Proofs.YtnonpolifipblaaDoor
