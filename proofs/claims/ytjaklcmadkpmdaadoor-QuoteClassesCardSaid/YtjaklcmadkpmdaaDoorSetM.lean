/- The plain mathematics of sets of bytes as four words: members, unions, lists, counts. No program is named here; no condition but that words are below 2^64. -/
import Derived.Lib.TrailingZeros
namespace Go.Proofs.YtjaklcmadkpmdaaDoor

/-- Four words. -/
structure S4 where
  a : Nat
  b : Nat
  c : Nat
  d : Nat

theorem two64 : (2 : Nat) ^ 64 = 18446744073709551616 := by decide

theorem word_ext {x y : Nat} (hx : x < 18446744073709551616) (hy : y < 18446744073709551616) (h : ∀ j, j < 64 → x.testBit j = y.testBit j) : x = y := by
  apply Nat.eq_of_testBit_eq
  intro i
  by_cases hi : i < 64
  · exact h i hi
  · have h2 : 18446744073709551616 ≤ 2 ^ i := by rw [← two64]; exact Nat.pow_le_pow_right (by decide) (by omega)
    rw [Nat.testBit_lt_two_pow (Nat.lt_of_lt_of_le hx h2), Nat.testBit_lt_two_pow (Nat.lt_of_lt_of_le hy h2)]

namespace S4
def ok (s : S4) : Prop := s.a < 18446744073709551616 ∧ s.b < 18446744073709551616 ∧ s.c < 18446744073709551616 ∧ s.d < 18446744073709551616
def w (s : S4) (i : Nat) : Nat := if i = 0 then s.a else if i = 1 then s.b else if i = 2 then s.c else s.d
def has (s : S4) (n : Nat) : Bool := (s.w (n / 64)).testBit (n % 64)

theorem has0 (s : S4) {j : Nat} (h : j < 64) : s.has j = s.a.testBit j := by
  unfold has w; rw [if_pos (by omega), Nat.mod_eq_of_lt h]
theorem has1 (s : S4) {j : Nat} (h : j < 64) : s.has (64 + j) = s.b.testBit j := by
  unfold has w; rw [if_neg (by omega), if_pos (by omega), show (64 + j) % 64 = j by omega]
theorem has2 (s : S4) {j : Nat} (h : j < 64) : s.has (128 + j) = s.c.testBit j := by
  unfold has w; rw [if_neg (by omega), if_neg (by omega), if_pos (by omega), show (128 + j) % 64 = j by omega]
theorem has3 (s : S4) {j : Nat} (h : j < 64) : s.has (192 + j) = s.d.testBit j := by
  unfold has w; rw [if_neg (by omega), if_neg (by omega), if_neg (by omega), show (192 + j) % 64 = j by omega]
theorem has_w (s : S4) (i : Nat) {j : Nat} (h : j < 64) : s.has (64 * i + j) = (s.w i).testBit j := by
  unfold has; rw [show (64 * i + j) / 64 = i by omega, show (64 * i + j) % 64 = j by omega]

theorem ext {s t : S4} (hs : s.ok) (ht : t.ok) (h : ∀ n, n < 256 → s.has n = t.has n) : s = t := by
  obtain ⟨h1, h2, h3, h4⟩ := hs
  obtain ⟨k1, k2, k3, k4⟩ := ht
  have e1 : s.a = t.a := word_ext h1 k1 fun j hj => by rw [← has0 s hj, ← has0 t hj]; exact h j (by omega)
  have e2 : s.b = t.b := word_ext h2 k2 fun j hj => by rw [← has1 s hj, ← has1 t hj]; exact h _ (by omega)
  have e3 : s.c = t.c := word_ext h3 k3 fun j hj => by rw [← has2 s hj, ← has2 t hj]; exact h _ (by omega)
  have e4 : s.d = t.d := word_ext h4 k4 fun j hj => by rw [← has3 s hj, ← has3 t hj]; exact h _ (by omega)
  cases s; cases t; simp_all

/-- Word by word. -/
def map2 (f : Nat → Nat → Nat) (s t : S4) : S4 := ⟨f s.a t.a, f s.b t.b, f s.c t.c, f s.d t.d⟩
theorem w_map2 (f : Nat → Nat → Nat) (s t : S4) (i : Nat) : (map2 f s t).w i = f (s.w i) (t.w i) := by
  unfold w map2; repeat' split
  all_goals rfl
theorem w_lt {s : S4} (h : s.ok) (i : Nat) : s.w i < 18446744073709551616 := by
  obtain ⟨h1, h2, h3, h4⟩ := h
  unfold w; repeat' split
  all_goals assumption
theorem ok_map2 {f : Nat → Nat → Nat} (hf : ∀ x y, x < 18446744073709551616 → y < 18446744073709551616 → f x y < 18446744073709551616) {s t : S4} (hs : s.ok) (ht : t.ok) : (map2 f s t).ok :=
  ⟨hf _ _ hs.1 ht.1, hf _ _ hs.2.1 ht.2.1, hf _ _ hs.2.2.1 ht.2.2.1, hf _ _ hs.2.2.2 ht.2.2.2⟩

def or (s t : S4) : S4 := map2 (fun x y => x ||| y) s t
def and (s t : S4) : S4 := map2 (fun x y => x &&& y) s t
def minus (s t : S4) : S4 := map2 (fun x y => x &&& (18446744073709551615 - y)) s t
def not (s : S4) : S4 := map2 (fun x _ => 18446744073709551615 - x) s s

theorem testBit_sub {y j : Nat} (hy : y < 18446744073709551616) (hj : j < 64) : (18446744073709551615 - y).testBit j = !y.testBit j := by
  have h := Nat.testBit_two_pow_sub_succ (x := y) (n := 64) (by rw [two64]; exact hy) j
  rw [two64] at h
  rw [show 18446744073709551615 - y = 18446744073709551616 - (y + 1) by omega, h]
  simp [hj]

theorem ok_or {s t : S4} (hs : s.ok) (ht : t.ok) : (s.or t).ok := ok_map2 (fun x y hx hy => by rw [← two64] at hx hy ⊢; exact Nat.or_lt_two_pow hx hy) hs ht
theorem ok_and {s t : S4} (hs : s.ok) (ht : t.ok) : (s.and t).ok := ok_map2 (fun x y hx hy => by rw [← two64] at hx hy ⊢; exact Nat.and_lt_two_pow _ hy) hs ht
theorem ok_minus {s t : S4} (hs : s.ok) (ht : t.ok) : (s.minus t).ok := ok_map2 (fun x y hx hy => by
  have h : x &&& (18446744073709551615 - y) ≤ x := Nat.and_le_left
  exact Nat.lt_of_le_of_lt h hx) hs ht
theorem ok_not {s : S4} (hs : s.ok) : (s.not).ok := ok_map2 (fun x _ _ _ => by omega) hs hs

theorem has_or (s t : S4) (n : Nat) : (s.or t).has n = (s.has n || t.has n) := by
  unfold has or; rw [w_map2, Nat.testBit_or]
theorem has_and (s t : S4) (n : Nat) : (s.and t).has n = (s.has n && t.has n) := by
  unfold has and; rw [w_map2, Nat.testBit_and]
theorem has_minus (s : S4) {t : S4} (ht : t.ok) (n : Nat) : (s.minus t).has n = (s.has n && !t.has n) := by
  unfold has minus; rw [w_map2, Nat.testBit_and, testBit_sub (w_lt ht _) (by omega)]
theorem has_not {s : S4} (hs : s.ok) (n : Nat) : (s.not).has n = !s.has n := by
  unfold has not; rw [w_map2, testBit_sub (w_lt hs _) (by omega)]

/-- The set of none. -/
def nil : S4 := ⟨0, 0, 0, 0⟩
theorem ok_nil : nil.ok := by unfold ok nil; exact ⟨by decide, by decide, by decide, by decide⟩
theorem has_nil (n : Nat) : nil.has n = false := by
  unfold has w nil
  repeat' split
  all_goals exact Nat.zero_testBit _

/-- A byte more. -/
def wth (s : S4) (n : Nat) : S4 :=
  ⟨if n / 64 = 0 then s.a ||| 2 ^ (n % 64) else s.a, if n / 64 = 1 then s.b ||| 2 ^ (n % 64) else s.b, if n / 64 = 2 then s.c ||| 2 ^ (n % 64) else s.c, if n / 64 = 3 then s.d ||| 2 ^ (n % 64) else s.d⟩
theorem pow_lt {j : Nat} (h : j < 64) : 2 ^ j < 18446744073709551616 := by rw [← two64]; exact Nat.pow_lt_pow_right (by decide) h
theorem or_pow_lt {x : Nat} (hx : x < 18446744073709551616) {j : Nat} (h : j < 64) : x ||| 2 ^ j < 18446744073709551616 := by
  have := pow_lt h
  rw [← two64] at hx this ⊢; exact Nat.or_lt_two_pow hx this
theorem ok_wth {s : S4} (hs : s.ok) (n : Nat) : (s.wth n).ok := by
  obtain ⟨h1, h2, h3, h4⟩ := hs
  have hm : n % 64 < 64 := by omega
  unfold ok wth
  refine ⟨?_, ?_, ?_, ?_⟩ <;> dsimp only <;> split <;> first | assumption | exact or_pow_lt (by assumption) hm
theorem has_wth (s : S4) {n m : Nat} (hn : n < 256) (hm : m < 256) : (s.wth n).has m = (s.has m || decide (m = n)) := by
  have hb : ∀ x : Nat, (x ||| 2 ^ (n % 64)).testBit (m % 64) = (x.testBit (m % 64) || decide (m % 64 = n % 64)) := by
    intro x
    rw [Nat.testBit_or, Nat.testBit_two_pow]
    congr 1
    simp [eq_comm]
  have hq : m / 64 = 0 ∨ m / 64 = 1 ∨ m / 64 = 2 ∨ m / 64 = 3 := by omega
  unfold has
  rcases hq with h | h | h | h
  all_goals
    rw [h]
    simp only [w, wth]
    simp
    split
    · rw [hb]; congr 1; simp; omega
    · have : ¬ m = n := by omega
      simp [this]

/-- The set of a text's bytes. -/
def ofL (s : S4) (l : List Nat) : S4 := l.foldl wth s
theorem ok_ofL : ∀ {s : S4} (l : List Nat), s.ok → (s.ofL l).ok
  | _, [], h => h
  | _, n :: l, h => ok_ofL l (ok_wth h n)
theorem has_ofL : ∀ (l : List Nat) (s : S4), (∀ n ∈ l, n < 256) → ∀ m, m < 256 → (s.ofL l).has m = (s.has m || decide (m ∈ l))
  | [], s, _, m, _ => by simp [ofL]
  | n :: l, s, hl, m, hm => by
    have h := has_ofL l (s.wth n) (fun k hk => hl k (List.mem_cons_of_mem _ hk)) m hm
    show ((s.wth n).ofL l).has m = _
    rw [h, has_wth s (hl n (List.mem_cons_self ..)) hm]
    simp [Bool.or_assoc]
theorem ofL_snoc (s : S4) (l : List Nat) (n : Nat) : s.ofL (l ++ [n]) = (s.ofL l).wth n := by simp [ofL]

/-- The members, rising. -/
def lst (s : S4) : List Nat := (List.range 256).filter s.has
theorem mem_lst {s : S4} {n : Nat} : n ∈ s.lst ↔ n < 256 ∧ s.has n = true := by simp [lst]
theorem ofL_lst {s : S4} (hs : s.ok) : nil.ofL s.lst = s := by
  refine ext (ok_ofL _ ok_nil) hs fun n hn => ?_
  rw [has_ofL _ _ (fun k hk => (mem_lst.1 hk).1) n hn, has_nil]
  cases h : s.has n <;> simp [mem_lst, hn, h]
theorem lst_inj {s t : S4} (hs : s.ok) (ht : t.ok) (h : s.lst = t.lst) : s = t := by rw [← ofL_lst hs, h, ofL_lst ht]
end S4

/-- The bits of a word, rising. -/
def wl (x : Nat) : List Nat := (List.range 64).filter x.testBit

theorem filter_first {p q : Nat → Bool} {k n : Nat} (hk : k < n) (hp : p k = true) (h1 : ∀ i, i < k → p i = false) (hq : ∀ i, q i = (p i && !decide (i = k))) :
    (List.range n).filter p = k :: (List.range n).filter q := by
  obtain ⟨m, rfl⟩ : ∃ m, n = k + (m + 1) := ⟨n - k - 1, by omega⟩
  have e : List.range (k + (m + 1)) = List.range k ++ (k :: (List.range m).map (fun i => k + (i + 1))) := by
    rw [List.range_add, List.range_succ_eq_map]
    simp
  rw [e]
  have f1 : (List.range k).filter p = [] := by
    rw [List.filter_eq_nil_iff]
    intro i hi
    rw [h1 i (by simpa using hi)]; simp
  have f2 : (List.range k).filter q = [] := by
    rw [List.filter_eq_nil_iff]
    intro i hi
    rw [hq, h1 i (by simpa using hi)]; simp
  rw [List.filter_append, List.filter_append, f1, f2, List.filter_cons_of_pos (by simpa using hp), List.filter_cons_of_neg (by rw [hq]; simp)]
  simp only [List.nil_append, List.cons.injEq, true_and]
  refine List.filter_congr fun i hi => ?_
  simp only [List.mem_map] at hi
  obtain ⟨j, _, rfl⟩ := hi
  rw [hq]
  simp

theorem clear_low {x : Nat} (h0 : x ≠ 0) (hx : x < 18446744073709551616) :
    Lib.ctz 64 x < 64 ∧ (∀ i, (x &&& (x - 1)).testBit i = (x.testBit i && !decide (i = Lib.ctz 64 x))) ∧ x.testBit (Lib.ctz 64 x) = true ∧ (∀ i, i < Lib.ctz 64 x → x.testBit i = false) := by
  have hc : Lib.ctz 64 x = Lib.ctzFrom 64 x := by unfold Lib.ctz; rw [if_neg h0]
  rw [hc]
  obtain ⟨m, hm, hk⟩ := Lib.ctzFrom_spec 64 x (by omega) (by rw [two64]; exact hx)
  generalize Lib.ctzFrom 64 x = k at *
  have hpow : 0 < 2 ^ k := Nat.two_pow_pos k
  have e1 : x - 1 = 2 ^ k * (2 * m) + (2 ^ k - 1) := by
    rw [hm, Nat.mul_add]; omega
  have t0 : ∀ i, x.testBit i = (decide (k ≤ i) && (2 * m + 1).testBit (i - k)) := by
    intro i; rw [hm, Nat.mul_comm, Nat.testBit_mul_two_pow]
  have t1 : ∀ i, (x - 1).testBit i = if i < k then true else (2 * m).testBit (i - k) := by
    intro i
    rw [e1, Nat.testBit_two_pow_mul_add _ (by omega)]
    split
    · rename_i h
      rw [Nat.testBit_two_pow_sub_one]; simp [h]
    · rfl
  refine ⟨hk, fun i => ?_, ?_, fun i hi => ?_⟩
  · rw [Nat.testBit_and, t1, t0]
    by_cases h : i < k
    · have : ¬ k ≤ i := by omega
      simp [this]
    · rw [if_neg h]
      obtain ⟨j, rfl⟩ : ∃ j, i = k + j := ⟨i - k, by omega⟩
      have e : k + j - k = j := by omega
      rw [e]
      cases j with
      | zero => simp
      | succ j => 
        rw [Nat.testBit_succ, Nat.testBit_succ, show (2 * m + 1) / 2 = m by omega, show 2 * m / 2 = m by omega]
        have h1 : k ≤ k + (j + 1) := by omega
        simp [h1]
  · rw [t0]; simp
  · rw [t0]
    have : ¬ k ≤ i := by omega
    simp [this]

theorem wl_step {x : Nat} (h0 : x ≠ 0) (hx : x < 18446744073709551616) : wl x = Lib.ctz 64 x :: wl (x &&& (x - 1)) := by
  obtain ⟨hk, hq, hp, h1⟩ := clear_low h0 hx
  exact filter_first hk hp h1 hq
theorem wl_zero : wl 0 = [] := by unfold wl; rw [List.filter_eq_nil_iff]; intro i _; rw [Nat.zero_testBit]; simp
theorem low_lt {x : Nat} (h0 : x ≠ 0) : x &&& (x - 1) < x := by
  have : x &&& (x - 1) ≤ x - 1 := Nat.and_le_right
  omega

theorem has_word (s : S4) (i : Nat) : ((List.range 64).map (fun j => 64 * i + j)).filter s.has = (wl (s.w i)).map (fun j => 64 * i + j) := by
  rw [List.filter_map]
  unfold wl
  congr 1
  refine List.filter_congr fun j hj => ?_
  exact S4.has_w s i (by simpa using hj)
/-- The members below 64 i. -/
def lstTo (s : S4) (i : Nat) : List Nat := (List.range (64 * i)).filter s.has
theorem lstTo_succ (s : S4) (i : Nat) : lstTo s (i + 1) = lstTo s i ++ (wl (s.w i)).map (fun j => 64 * i + j) := by
  unfold lstTo
  rw [show 64 * (i + 1) = 64 * i + 64 by omega, List.range_add, List.filter_append, has_word]
theorem lstTo_zero (s : S4) : lstTo s 0 = [] := rfl
theorem lstTo_four (s : S4) : lstTo s 4 = s.lst := rfl

/-- How many bits a word has. -/
def pc (x : Nat) : Nat := (wl x).length
theorem len_lst (s : S4) : s.lst.length = pc s.a + pc s.b + pc s.c + pc s.d := by
  rw [← lstTo_four, lstTo_succ, lstTo_succ, lstTo_succ, lstTo_succ, lstTo_zero]
  simp [pc, S4.w]
  omega
theorem pc_le (x : Nat) : pc x ≤ 64 := by
  have := List.length_filter_le x.testBit (List.range 64)
  rw [List.length_range] at this
  exact this

/-! ### Bits counted by halves -/
theorem and_cat (x y k : Nat) (a b : Nat) (ha : a < 2 ^ k) (hb : b < 2 ^ k) : (a + 2 ^ k * x) &&& (b + 2 ^ k * y) = (a &&& b) + 2 ^ k * (x &&& y) := by
  apply Nat.eq_of_testBit_eq
  intro i
  have hab : a &&& b < 2 ^ k := Nat.and_lt_two_pow _ hb
  rw [Nat.testBit_and, Nat.add_comm a, Nat.add_comm b, Nat.add_comm (a &&& b), Nat.testBit_two_pow_mul_add _ ha, Nat.testBit_two_pow_mul_add _ hb, Nat.testBit_two_pow_mul_add _ hab]
  split
  · rw [Nat.testBit_and]
  · rw [Nat.testBit_and]
theorem and_cat8 (x y a b : Nat) (ha : a < 256) (hb : b < 256) : (a + 256 * x) &&& (b + 256 * y) = (a &&& b) + 256 * (x &&& y) := and_cat x y 8 a b ha hb
/-- How many of a number's first k bits are set. -/
def cnt (k x : Nat) : Nat := ((List.range k).filter x.testBit).length
theorem cnt_cat (k c x : Nat) (hc : c < 256) : cnt (8 + k) (c + 256 * x) = cnt 8 c + cnt k x := by
  unfold cnt
  rw [List.range_add, List.filter_append, List.length_append, List.filter_map, List.length_map]
  congr 1
  · congr 1
    refine List.filter_congr fun j hj => ?_
    rw [Nat.add_comm, show (256 : Nat) = 2 ^ 8 by rfl, Nat.testBit_two_pow_mul_add _ hc, if_pos (by simpa using hj)]
  · congr 1
    refine List.filter_congr fun j hj => ?_
    show (c + 256 * x).testBit (8 + j) = _
    rw [Nat.add_comm, show (256 : Nat) = 2 ^ 8 by rfl, Nat.testBit_two_pow_mul_add _ hc, if_neg (by omega)]
    congr 1; omega

def rep (c : Nat) : Nat → Nat
  | 0 => 0
  | k + 1 => c + 256 * rep c k
def g1 (m x : Nat) : Nat := (x / 2 &&& m) + (x &&& m)
def g2 (m x : Nat) : Nat := (x / 4 &&& m) + (x &&& m)
def g3 (m x : Nat) : Nat := (x / 16 + x) &&& m
def val : List Nat → Nat
  | [] => 0
  | c :: l => c + 256 * val l
theorem byte1 : ∀ c, c < 256 → ∀ b, b < 2 → (c / 2 + 128 * b) &&& 85 = c / 2 &&& 85 := by decide +kernel
theorem byte2 : ∀ c, c < 256 → ∀ b, b < 4 → (c / 4 + 64 * b) &&& 51 = c / 4 &&& 51 := by decide +kernel
theorem byte1_lt : ∀ c, c < 256 → g1 85 c < 256 := by decide +kernel
theorem byte2_lt : ∀ c, c < 256 → g2 51 c ≤ 102 ∧ g2 51 c % 16 ≤ 6 := by decide +kernel
theorem byte3 : ∀ c, c < 256 → g3 15 (g2 51 (g1 85 c)) = cnt 8 c := by decide +kernel
theorem g1_cat (k c x : Nat) (hc : c < 256) : g1 (rep 85 (k + 1)) (c + 256 * x) = g1 85 c + 256 * g1 (rep 85 k) x := by
  unfold g1
  have e : (c + 256 * x) / 2 = (c / 2 + 128 * (x % 2)) + 256 * (x / 2) := by omega
  have hb := byte1 c hc (x % 2) (by omega)
  rw [e, rep, and_cat8 _ _ _ _ (by omega) (by omega), and_cat8 _ _ _ _ hc (by omega), hb]
  omega
theorem g2_cat (k c x : Nat) (hc : c < 256) : g2 (rep 51 (k + 1)) (c + 256 * x) = g2 51 c + 256 * g2 (rep 51 k) x := by
  unfold g2
  have e : (c + 256 * x) / 4 = (c / 4 + 64 * (x % 4)) + 256 * (x / 4) := by omega
  have hb := byte2 c hc (x % 4) (by omega)
  rw [e, rep, and_cat8 _ _ _ _ (by omega) (by omega), and_cat8 _ _ _ _ hc (by omega), hb]
  omega
theorem g3_cat (k c x : Nat) (hc : c ≤ 102) (hx : x % 16 ≤ 6) : g3 (rep 15 (k + 1)) (c + 256 * x) = g3 15 c + 256 * g3 (rep 15 k) x := by
  unfold g3
  have e : (c + 256 * x) / 16 + (c + 256 * x) = (c / 16 + 16 * (x % 16) + c) + 256 * (x / 16 + x) := by omega
  rw [e, rep, and_cat8 _ _ _ _ (by omega) (by omega)]
  congr 1
  rw [Nat.and_two_pow_sub_one_eq_mod _ 4, Nat.and_two_pow_sub_one_eq_mod _ 4]
  omega
theorem g_all : ∀ l : List Nat, (∀ c ∈ l, c < 256) →
    g3 (rep 15 l.length) (g2 (rep 51 l.length) (g1 (rep 85 l.length) (val l))) = val (l.map (cnt 8)) ∧ (g2 (rep 51 l.length) (g1 (rep 85 l.length) (val l))) % 16 ≤ 6
  | [], _ => by decide
  | c :: l, h => by
    obtain ⟨ih1, ih2⟩ := g_all l fun x hx => h x (List.mem_cons_of_mem _ hx)
    have hc := h c (List.mem_cons_self ..)
    have b1 := byte1_lt c hc
    obtain ⟨b2, b3⟩ := byte2_lt _ b1
    rw [List.length_cons, val, g1_cat _ _ _ hc, g2_cat _ _ _ b1]
    refine ⟨?_, by omega⟩
    rw [g3_cat _ _ _ b2 ih2, ih1, byte3 c hc]
    rfl
theorem cnt8_le (c : Nat) : cnt 8 c ≤ 8 := by
  have := List.length_filter_le c.testBit (List.range 8)
  rw [List.length_range] at this
  exact this
theorem cnt_zero (x : Nat) : cnt 0 x = 0 := rfl
theorem cnt_val : ∀ l : List Nat, (∀ c ∈ l, c < 256) → cnt (8 * l.length) (val l) = (l.map (cnt 8)).sum
  | [], _ => rfl
  | c :: l, h => by
    rw [List.length_cons, show 8 * (l.length + 1) = 8 + 8 * l.length by omega, val, cnt_cat _ _ _ (h c (List.mem_cons_self ..)), cnt_val l fun x hx => h x (List.mem_cons_of_mem _ hx)]
    simp
def octets (x : Nat) : List Nat := [x % 256, x / 256 % 256, x / 65536 % 256, x / 16777216 % 256, x / 4294967296 % 256, x / 1099511627776 % 256, x / 281474976710656 % 256, x / 72057594037927936]
theorem val_octets (x : Nat) : val (octets x) = x := by
  simp only [octets, val]
  omega
theorem octets_lt {x : Nat} (hx : x < 18446744073709551616) : ∀ c ∈ octets x, c < 256 := by
  intro c hc
  simp only [octets, List.mem_cons, List.not_mem_nil, or_false] at hc
  omega
theorem foldA (p0 p1 p2 p3 p4 p5 p6 p7 : Nat) (h0 : p0 ≤ 8) (h1 : p1 ≤ 8) (h2 : p2 ≤ 8) (h3 : p3 ≤ 8) (h4 : p4 ≤ 8) (h5 : p5 ≤ 8) (h6 : p6 ≤ 8) (h7 : p7 ≤ 8) (y : Nat)
    (hy : y = p0 + 256 * (p1 + 256 * (p2 + 256 * (p3 + 256 * (p4 + 256 * (p5 + 256 * (p6 + 256 * (p7 + 256 * 0)))))))) :
    (y + y / 256) % 18446744073709551616 = (p0 + p1) + 256 * ((p1 + p2) + 256 * ((p2 + p3) + 256 * ((p3 + p4) + 256 * ((p4 + p5) + 256 * ((p5 + p6) + 256 * ((p6 + p7) + 256 * p7)))))) := by
  have e : y / 256 = (p1 + 256 * (p2 + 256 * (p3 + 256 * (p4 + 256 * (p5 + 256 * (p6 + 256 * p7)))))) := by
    rw [hy, Nat.add_mul_div_left _ _ (by decide), Nat.div_eq_of_lt (by omega), Nat.zero_add, Nat.mul_zero, Nat.add_zero]
  rw [Nat.mod_eq_of_lt (by omega), e, hy]
  omega
theorem foldB (q0 q1 q2 q3 q4 q5 q6 q7 : Nat) (h0 : q0 ≤ 16) (h1 : q1 ≤ 16) (h2 : q2 ≤ 16) (h3 : q3 ≤ 16) (h4 : q4 ≤ 16) (h5 : q5 ≤ 16) (h6 : q6 ≤ 16) (h7 : q7 ≤ 16) (y : Nat)
    (hy : y = q0 + 256 * (q1 + 256 * (q2 + 256 * (q3 + 256 * (q4 + 256 * (q5 + 256 * (q6 + 256 * q7))))))) :
    (y + y / 65536) % 18446744073709551616 = (q0 + q2) + 256 * ((q1 + q3) + 256 * ((q2 + q4) + 256 * ((q3 + q5) + 256 * ((q4 + q6) + 256 * ((q5 + q7) + 256 * (q6 + 256 * q7)))))) := by
  have e : y / 65536 = (q2 + 256 * (q3 + 256 * (q4 + 256 * (q5 + 256 * (q6 + 256 * q7))))) := by
    rw [show y = (q0 + 256 * q1) + 65536 * (q2 + 256 * (q3 + 256 * (q4 + 256 * (q5 + 256 * (q6 + 256 * q7))))) by omega, Nat.add_mul_div_left _ _ (by decide), Nat.div_eq_of_lt (by omega), Nat.zero_add]
  rw [Nat.mod_eq_of_lt (by omega), e, hy]
  omega
theorem foldC (q0 q1 q2 q3 q4 q5 q6 q7 : Nat) (h0 : q0 ≤ 32) (h1 : q1 ≤ 32) (h2 : q2 ≤ 32) (h3 : q3 ≤ 32) (h4 : q4 ≤ 32) (h5 : q5 ≤ 32) (h6 : q6 ≤ 32) (h7 : q7 ≤ 32) (y : Nat)
    (hy : y = q0 + 256 * (q1 + 256 * (q2 + 256 * (q3 + 256 * (q4 + 256 * (q5 + 256 * (q6 + 256 * q7))))))) :
    (y + y / 4294967296) % 18446744073709551616 % 128 = q0 + q4 := by
  have e : y / 4294967296 = q4 + 256 * (q5 + 256 * (q6 + 256 * q7)) := by
    rw [show y = (q0 + 256 * (q1 + 256 * (q2 + 256 * q3))) + 4294967296 * (q4 + 256 * (q5 + 256 * (q6 + 256 * q7))) by omega, Nat.add_mul_div_left _ _ (by decide), Nat.div_eq_of_lt (by omega), Nat.zero_add]
  rw [Nat.mod_eq_of_lt (show y + y / 4294967296 < 18446744073709551616 by omega), e, hy]
  omega
theorem fold_sum (p0 p1 p2 p3 p4 p5 p6 p7 : Nat) (h0 : p0 ≤ 8) (h1 : p1 ≤ 8) (h2 : p2 ≤ 8) (h3 : p3 ≤ 8) (h4 : p4 ≤ 8) (h5 : p5 ≤ 8) (h6 : p6 ≤ 8) (h7 : p7 ≤ 8) (y3 y4 y5 : Nat)
    (hy : y3 = p0 + 256 * (p1 + 256 * (p2 + 256 * (p3 + 256 * (p4 + 256 * (p5 + 256 * (p6 + 256 * (p7 + 256 * 0))))))))
    (hy4 : y4 = (y3 + y3 / 256) % 18446744073709551616) (hy5 : y5 = (y4 + y4 / 65536) % 18446744073709551616) :
    (y5 + y5 / 4294967296) % 18446744073709551616 % 128 = p0 + p1 + p2 + p3 + p4 + p5 + p6 + p7 := by
  rw [foldA p0 p1 p2 p3 p4 p5 p6 p7 h0 h1 h2 h3 h4 h5 h6 h7 y3 hy] at hy4
  clear hy
  have k (a b : Nat) (ha : a ≤ 8) (hb : b ≤ 8) : a + b ≤ 16 := Nat.add_le_add ha hb
  have k2 (a b : Nat) (ha : a ≤ 16) (hb : b ≤ 16) : a + b ≤ 32 := Nat.add_le_add ha hb
  have e5 := foldB (p0 + p1) (p1 + p2) (p2 + p3) (p3 + p4) (p4 + p5) (p5 + p6) (p6 + p7) p7 (k _ _ h0 h1) (k _ _ h1 h2) (k _ _ h2 h3) (k _ _ h3 h4) (k _ _ h4 h5) (k _ _ h5 h6) (k _ _ h6 h7) (Nat.le_trans h7 (by decide)) y4 hy4
  rw [e5] at hy5
  clear hy4 e5
  have e6 := foldC (p0 + p1 + (p2 + p3)) (p1 + p2 + (p3 + p4)) (p2 + p3 + (p4 + p5)) (p3 + p4 + (p5 + p6)) (p4 + p5 + (p6 + p7)) (p5 + p6 + p7) (p6 + p7) p7 (k2 _ _ (k _ _ h0 h1) (k _ _ h2 h3)) (k2 _ _ (k _ _ h1 h2) (k _ _ h3 h4)) (k2 _ _ (k _ _ h2 h3) (k _ _ h4 h5)) (k2 _ _ (k _ _ h3 h4) (k _ _ h5 h6)) (k2 _ _ (k _ _ h4 h5) (k _ _ h6 h7)) (k2 _ _ (k _ _ h5 h6) (Nat.le_trans h7 (by decide))) (Nat.le_trans (k _ _ h6 h7) (by decide)) (Nat.le_trans h7 (by decide)) y5 hy5
  rw [e6]
  clear e6 hy5
  omega
def ones (x : Nat) : Nat :=
  let y3 := g3 1085102592571150095 (g2 3689348814741910323 (g1 6148914691236517205 x))
  let y4 := (y3 + y3 / 256) % 18446744073709551616
  let y5 := (y4 + y4 / 65536) % 18446744073709551616
  (y5 + y5 / 4294967296) % 18446744073709551616 % 128
theorem ones_eq {x : Nat} (hx : x < 18446744073709551616) : ones x = pc x := by
  have ho := octets_lt hx
  have h1 := (g_all (octets x) ho).1
  have h2 := cnt_val (octets x) ho
  rw [val_octets] at h1 h2
  have e : (octets x).length = 8 := rfl
  rw [e] at h1 h2
  have r1 : rep 15 8 = 1085102592571150095 := by decide
  have r2 : rep 51 8 = 3689348814741910323 := by decide
  have r3 : rep 85 8 = 6148914691236517205 := by decide
  rw [r1, r2, r3] at h1
  rw [show 8 * 8 = 64 from rfl] at h2
  have hpc : pc x = cnt 64 x := rfl
  rw [hpc, h2]
  clear hpc h2 r1 r2 r3 e ho hx
  simp only [octets, List.map_cons, List.map_nil, val, List.sum_cons, List.sum_nil] at h1 ⊢
  have := fold_sum (cnt 8 (x % 256)) (cnt 8 (x / 256 % 256)) (cnt 8 (x / 65536 % 256)) (cnt 8 (x / 16777216 % 256)) (cnt 8 (x / 4294967296 % 256)) (cnt 8 (x / 1099511627776 % 256)) (cnt 8 (x / 281474976710656 % 256)) (cnt 8 (x / 72057594037927936)) (cnt8_le _) (cnt8_le _) (cnt8_le _) (cnt8_le _) (cnt8_le _) (cnt8_le _) (cnt8_le _) (cnt8_le _) _ _ _ h1 rfl rfl
  unfold ones
  dsimp only
  rw [this]
  clear this h1
  omega
end Go.Proofs.YtjaklcmadkpmdaaDoor
