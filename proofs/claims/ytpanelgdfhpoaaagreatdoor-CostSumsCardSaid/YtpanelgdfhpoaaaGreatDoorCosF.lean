/- Whole numbers as floating point numbers, as plain mathematics: how they are written and read, added, compared, and made whole. -/
import Derived.Laws.FloatArith
import Derived.Laws.ComplexArith
namespace Go.Proofs.YtpanelgdfhpoaaaGreatDoor
open Ieee

theorem log_le {k : Nat} (h0 : k ≠ 0) : 2 ^ k.log2 ≤ k := Nat.log2_self_le h0
theorem lt_log {k : Nat} : k < 2 ^ (k.log2 + 1) := Nat.lt_log2_self
theorem log_mul {k : Nat} (h0 : k ≠ 0) (p : Nat) : (k * 2 ^ p).log2 = k.log2 + p := by
  have h1 := log_le h0
  have h2 := lt_log (k := k)
  have hp : 0 < 2 ^ p := Nat.two_pow_pos p
  have hne : k * 2 ^ p ≠ 0 := Nat.mul_ne_zero h0 (by omega)
  have ha : 2 ^ (k.log2 + p) ≤ k * 2 ^ p := by rw [Nat.pow_add]; exact Nat.mul_le_mul_right _ h1
  have hb : k * 2 ^ p < 2 ^ (k.log2 + 1 + p) := by rw [Nat.pow_add]; exact Nat.mul_lt_mul_of_pos_right h2 hp
  have h3 := log_le hne
  have h4 := lt_log (k := k * 2 ^ p)
  have h5 : (k * 2 ^ p).log2 < k.log2 + p + 1 := by
    have : 2 ^ (k * 2 ^ p).log2 < 2 ^ (k.log2 + p + 1) := by rw [show k.log2 + p + 1 = k.log2 + 1 + p by omega]; omega
    exact (Nat.pow_lt_pow_iff_right (by omega)).1 this
  have h6 : k.log2 + p < (k * 2 ^ p).log2 + 1 := by
    have : 2 ^ (k.log2 + p) < 2 ^ ((k * 2 ^ p).log2 + 1) := by omega
    exact (Nat.pow_lt_pow_iff_right (by omega)).1 this
  omega

theorem cut_exact (way : Toward) (neg : Bool) (n d : Nat) (hd : d ≤ (n * 2 ^ d).log2 + 2) : way.cut neg (n * 2 ^ d) d = n := by
  have hp : 0 < 2 ^ d := Nat.two_pow_pos d
  unfold Toward.cut
  rw [Nat.min_eq_left hd, Nat.one_shiftLeft]
  simp only [Nat.mul_div_cancel _ hp, Nat.mul_mod_left]
  cases way <;> simp

theorem e52 : (2 : Nat) ^ 52 = 4503599627370496 := rfl
theorem e53 : (2 : Nat) ^ 53 = 9007199254740992 := rfl
theorem e63 : (2 : Nat) ^ 63 = 9223372036854775808 := rfl

/-- The rung of a number that is not 0. -/
def rungOf (k : Nat) : Nat := (k.log2 + 1022) * 2 ^ 52 + k * 2 ^ (52 - k.log2)

theorem log_lt {k : Nat} (h0 : k ≠ 0) (hk : k < 2 ^ 53) : k.log2 ≤ 52 := by
  have h1 := log_le h0
  have : 2 ^ k.log2 < 2 ^ 53 := Nat.lt_of_le_of_lt h1 hk
  have := (Nat.pow_lt_pow_iff_right (a := 2) (by omega)).1 this
  omega

theorem kept_bounds {k : Nat} (h0 : k ≠ 0) (hk : k < 2 ^ 53) : 2 ^ 52 ≤ k * 2 ^ (52 - k.log2) ∧ k * 2 ^ (52 - k.log2) < 2 ^ 53 := by
  have hl := log_lt h0 hk
  have h1 := log_le h0
  have h2 := lt_log (k := k)
  have e1 : (2 : Nat) ^ 52 = 2 ^ k.log2 * 2 ^ (52 - k.log2) := by rw [← Nat.pow_add]; congr 1; omega
  have e2 : (2 : Nat) ^ 53 = 2 ^ (k.log2 + 1) * 2 ^ (52 - k.log2) := by rw [← Nat.pow_add]; congr 1; omega
  rw [e1, e2]
  exact ⟨Nat.mul_le_mul_right _ h1, Nat.mul_lt_mul_of_pos_right h2 (Nat.two_pow_pos _)⟩

set_option maxRecDepth 100000 in
theorem nearest_pos (neg : Bool) {k : Nat} (h0 : k ≠ 0) (hk : k < 2 ^ 53) (p : Nat) : double.nearest neg (k * 2 ^ p) (-(p : Int)) = double.word neg (rungOf k) := by
  have hl := log_lt h0 hk
  obtain ⟨hb1, hb2⟩ := kept_bounds h0 hk
  have hne : k * 2 ^ p ≠ 0 := Nat.mul_ne_zero h0 (by have := Nat.two_pow_pos p; omega)
  unfold Format.nearest
  rw [if_neg hne, log_mul h0 p]
  have hlp : double.leastPlace = -1074 := by decide
  have hfb : double.fractionBits = 52 := rfl
  have hlast : max (-(p : Int) + ((k.log2 + p : Nat) : Int) - (double.fractionBits : Int)) double.leastPlace = (k.log2 : Int) - 52 := by
    rw [hlp, hfb]; omega
  simp only [hlast]
  have hkept : Toward.even.cut neg ((k * 2 ^ p) <<< (-(p : Int) - ((k.log2 : Int) - 52)).toNat) (((k.log2 : Int) - 52) - -(p : Int)).toNat = k * 2 ^ (52 - k.log2) := by
    by_cases h : p ≤ 52 - k.log2
    · have e1 : (-(p : Int) - ((k.log2 : Int) - 52)).toNat = (52 - k.log2) - p := by omega
      have e2 : (((k.log2 : Int) - 52) - -(p : Int)).toNat = 0 := by omega
      rw [e1, e2, Nat.shiftLeft_eq, Nat.mul_assoc, ← Nat.pow_add, show p + ((52 - k.log2) - p) = 52 - k.log2 by omega]
      have := cut_exact .even neg (k * 2 ^ (52 - k.log2)) 0 (by omega)
      rw [Nat.pow_zero, Nat.mul_one] at this
      exact this
    · have e1 : (-(p : Int) - ((k.log2 : Int) - 52)).toNat = 0 := by omega
      have e2 : (((k.log2 : Int) - 52) - -(p : Int)).toNat = p - (52 - k.log2) := by omega
      rw [e1, e2, Nat.shiftLeft_zero]
      have e3 : k * 2 ^ p = k * 2 ^ (52 - k.log2) * 2 ^ (p - (52 - k.log2)) := by rw [Nat.mul_assoc, ← Nat.pow_add]; congr 2; omega
      rw [e3]
      refine cut_exact .even neg _ _ ?_
      rw [← e3, log_mul h0 p]
      omega
  rw [hkept, hlp]
  have e4 : ((k.log2 : Int) - 52 - -1074).toNat = k.log2 + 1022 := by omega
  rw [e4]
  have hbi : double.binade = 2 ^ 52 := rfl
  have hin : double.infRung = 2047 * 2 ^ 52 := by decide
  rw [hbi, hin]
  unfold rungOf
  congr 1
  refine Nat.min_eq_left ?_
  generalize k * 2 ^ (52 - k.log2) = q at hb1 hb2 ⊢
  rw [e53] at hb2
  rw [e52] at hb1 ⊢
  omega

set_option maxRecDepth 100000 in
theorem read_pos (neg : Bool) {k : Nat} (h0 : k ≠ 0) (hk : k < 2 ^ 53) : double.read (double.word neg (rungOf k)) = .number neg (k * 2 ^ (52 - k.log2)) ((k.log2 : Int) - 52) := by
  have hl := log_lt h0 hk
  obtain ⟨hb1, hb2⟩ := kept_bounds h0 hk
  obtain ⟨q, hq⟩ : ∃ q, k * 2 ^ (52 - k.log2) = q := ⟨_, rfl⟩
  rw [hq] at hb1 hb2
  obtain ⟨L, hL⟩ : ∃ L, k.log2 = L := ⟨_, rfl⟩
  rw [hL] at hl
  have hr : rungOf k = (L + 1022) * 2 ^ 52 + q := by unfold rungOf; rw [hq, hL]
  rw [hr, hq, hL]
  have hsw : double.signWeight = 2 ^ 63 := rfl
  have hbi : double.binade = 2 ^ 52 := rfl
  have hin : double.infRung = 2047 * 2 ^ 52 := by decide
  have hlp : double.leastPlace = -1074 := by decide
  rw [e52] at hb1 hbi hin ⊢
  rw [e53] at hb2
  rw [e63] at hsw
  have hlt : (L + 1022) * 4503599627370496 + q < 9223372036854775808 := by omega
  have hmod : double.word neg ((L + 1022) * 4503599627370496 + q) % 9223372036854775808 = (L + 1022) * 4503599627370496 + q := by
    unfold Format.word
    rw [hsw]
    cases neg
    · rw [if_neg (by decide)]; exact Nat.mod_eq_of_lt hlt
    · rw [if_pos rfl, Nat.add_mod_left]; exact Nat.mod_eq_of_lt hlt
  have hneg : (double.word neg ((L + 1022) * 4503599627370496 + q) / 9223372036854775808 % 2 == 1) = neg := by
    unfold Format.word
    rw [hsw]
    cases neg
    · rw [if_neg (by decide), Nat.div_eq_of_lt hlt]; rfl
    · rw [if_pos rfl, Nat.add_div_left _ (by decide), Nat.div_eq_of_lt hlt]; rfl
  have hdiv : ((L + 1022) * 4503599627370496 + q) / 4503599627370496 = L + 1023 := by omega
  have hrem : ((L + 1022) * 4503599627370496 + q) % 4503599627370496 = q - 4503599627370496 := by omega
  unfold Format.read
  simp only [hsw, hbi, hin, hlp, hmod, hneg, hdiv, hrem]
  rw [if_neg (by omega), if_pos (by omega)]
  have a : 4503599627370496 + (q - 4503599627370496) = q := by omega
  have b : (-1074 : Int) + ((L + 1023 - 1 : Nat) : Int) = (L : Int) - 52 := by omega
  rw [a, b]

/-- A whole number's bits. -/
def F (n : Int) : Nat := FloatKind.f64.nearest n

theorem F_zero : F 0 = 0 := by decide

theorem F_write {n : Int} (hn : n.natAbs < 2 ^ 53) (p : Nat) : FloatKind.f64.encode (.number (decide (n < 0)) (n.natAbs * 2 ^ p) (-(p : Int))) = F n := by
  have key : ∀ p : Nat, double.nearest (decide (n < 0)) (n.natAbs * 2 ^ p) (-(p : Int)) = if n = 0 then 0 else double.word (decide (n < 0)) (rungOf n.natAbs) := by
    intro p
    by_cases h : n = 0
    · subst h
      rw [if_pos rfl]
      unfold Format.nearest
      rw [if_pos (by simp)]
      rfl
    · rw [if_neg h]
      exact nearest_pos _ (by omega) hn p
  have h0 := key 0
  rw [Nat.pow_zero, Nat.mul_one] at h0
  show double.nearest _ _ _ = double.nearest _ _ _
  rw [key p]
  exact h0.symm

theorem F_read {n : Int} (hn : n.natAbs < 2 ^ 53) : ∃ p : Nat, p ≤ 1074 ∧ FloatKind.f64.decode (F n) = .number (decide (n < 0)) (n.natAbs * 2 ^ p) (-(p : Int)) := by
  by_cases h : n = 0
  · subst h
    exact ⟨1074, Nat.le_refl _, by rw [F_zero]; decide +kernel⟩
  · have hl := log_lt (k := n.natAbs) (by omega) hn
    refine ⟨52 - n.natAbs.log2, by omega, ?_⟩
    have hw := nearest_pos (decide (n < 0)) (k := n.natAbs) (by omega) hn 0
    rw [Nat.pow_zero, Nat.mul_one] at hw
    show double.read (double.nearest (decide (n < 0)) n.natAbs 0) = _
    have e : (-((0 : Nat) : Int)) = 0 := rfl
    rw [e] at hw
    rw [hw, read_pos _ (by omega) hn]
    congr 1
    omega

theorem signed_at (n : Int) (p q : Nat) : signed (decide (n < 0)) (n.natAbs * 2 ^ p) q = n * 2 ^ (p + q) := by
  unfold signed
  rw [Nat.shiftLeft_eq, Nat.mul_assoc, ← Nat.pow_add]
  by_cases h : n < 0
  · rw [decide_eq_true h, if_pos rfl]
    have : (n.natAbs : Int) = -n := by omega
    push_cast
    rw [this, Int.neg_mul, Int.neg_neg]
  · rw [decide_eq_false h, if_neg (by decide)]
    have : (n.natAbs : Int) = n := by omega
    push_cast
    rw [this]

theorem F_add {a c : Int} (ha : a.natAbs < 2 ^ 52) (hc : c.natAbs < 2 ^ 52) : FloatKind.f64.format.add (F a) (F c) = some (F (a + c)) := by
  obtain ⟨p, _, hp⟩ := F_read (n := a) (by omega)
  obtain ⟨q, _, hq⟩ := F_read (n := c) (by omega)
  unfold Format.add
  rw [show FloatKind.f64.format.read (F a) = _ from hp, show FloatKind.f64.format.read (F c) = _ from hq]
  unfold Datum.sum
  obtain ⟨M, hM⟩ : ∃ M, max p q = M := ⟨_, rfl⟩
  have hbase : min (-(p : Int)) (-(q : Int)) = -(M : Int) := by omega
  simp only [hbase, Option.map_some]
  have e1 : (-(p : Int) - -(M : Int)).toNat = M - p := by omega
  have e2 : (-(q : Int) - -(M : Int)).toNat = M - q := by omega
  rw [e1, e2, signed_at, signed_at, show p + (M - p) = M by omega, show q + (M - q) = M by omega, ← Int.add_mul]
  have hpos : (0 : Int) < 2 ^ M := Int.pow_pos (by decide)
  have hz : ((a + c) * 2 ^ M = 0) ↔ a + c = 0 := by
    constructor
    · intro h
      rcases Int.mul_eq_zero.1 h with h | h
      · exact h
      · omega
    · intro h; rw [h, Int.zero_mul]
  have hn : ((a + c) * 2 ^ M < 0) ↔ a + c < 0 := by
    constructor
    · intro h
      rcases Int.lt_or_le (a + c) 0 with h1 | h1
      · exact h1
      · have := Int.mul_nonneg h1 (Int.le_of_lt hpos); omega
    · intro h; exact Int.mul_neg_of_neg_of_pos h hpos
  have hs : (if (a + c) * 2 ^ M = 0 then (decide (a < 0) && decide (c < 0)) else decide ((a + c) * 2 ^ M < 0)) = decide (a + c < 0) := by
    by_cases h : a + c = 0
    · rw [if_pos (hz.2 h)]
      have : ¬ (a < 0 ∧ c < 0) := by omega
      rw [← Bool.decide_and, decide_eq_false this, decide_eq_false (by omega)]
    · rw [if_neg (fun e => h (hz.1 e))]
      exact decide_eq_decide.2 hn
  have hab : ((a + c) * 2 ^ M).natAbs = (a + c).natAbs * 2 ^ M := by
    rw [Int.natAbs_mul]
    congr 1
  rw [hs, hab]
  exact congrArg some (F_write (n := a + c) (by omega) M)

theorem F_order {a c : Int} (ha : a.natAbs < 2 ^ 52) (hc : c.natAbs < 2 ^ 52) : FloatKind.f64.format.order (F a) (F c) = some (compare a c) := by
  obtain ⟨p, _, hp⟩ := F_read (n := a) (by omega)
  obtain ⟨q, _, hq⟩ := F_read (n := c) (by omega)
  unfold Format.order
  rw [show FloatKind.f64.format.read (F a) = _ from hp, show FloatKind.f64.format.read (F c) = _ from hq]
  unfold Datum.order
  obtain ⟨M, hM⟩ : ∃ M, max p q = M := ⟨_, rfl⟩
  have hbase : min (-(p : Int)) (-(q : Int)) = -(M : Int) := by omega
  simp only [hbase]
  have e1 : (-(p : Int) - -(M : Int)).toNat = M - p := by omega
  have e2 : (-(q : Int) - -(M : Int)).toNat = M - q := by omega
  rw [e1, e2, signed_at, signed_at, show p + (M - p) = M by omega, show q + (M - q) = M by omega]
  have hpos : (0 : Int) < 2 ^ M := Int.pow_pos (by decide)
  have hlt : ∀ x y : Int, x * 2 ^ M < y * 2 ^ M ↔ x < y := fun x y => Int.mul_lt_mul_right hpos
  rcases Int.lt_trichotomy a c with h | rfl | h
  · rw [Int.compare_eq_lt.2 h, Int.compare_eq_lt.2 ((hlt a c).2 h)]
  · rw [Int.compare_eq_eq.2 rfl, Int.compare_eq_eq.2 rfl]
  · rw [Int.compare_eq_gt.2 h, Int.compare_eq_gt.2 ((hlt c a).2 h)]

theorem F_whole {n : Int} (hn : n.natAbs < 2 ^ 52) (way : Toward) : (FloatKind.f64.decode (F n)).integral way = .number (decide (n < 0)) n.natAbs 0 := by
  obtain ⟨p, _, hp⟩ := F_read (n := n) (by omega)
  rw [hp]
  unfold Datum.integral
  have e1 : (-(p : Int)).toNat = 0 := by omega
  have e2 : (- -(p : Int)).toNat = p := by omega
  simp only [e1, e2, Nat.shiftLeft_zero]
  congr 1
  by_cases h : n = 0
  · subst h
    simp only [Int.natAbs_zero, Nat.zero_mul]
    unfold Toward.cut
    simp only [Nat.zero_div, Nat.zero_mod]
    have hg : 0 < 1 <<< min p (Nat.log2 0 + 2) := by rw [Nat.one_shiftLeft]; exact Nat.two_pow_pos _
    cases way <;> simp
  · refine cut_exact way _ _ _ ?_
    rw [log_mul (by omega) p]
    omega

theorem F_floor {n : Int} (hn : n.natAbs < 2 ^ 52) : FloatKind.f64.encode ((FloatKind.f64.decode (F n)).integral .down) = F n := by
  rw [F_whole hn]
  have := F_write (n := n) (by omega) 0
  rw [Nat.pow_zero, Nat.mul_one] at this
  exact this

theorem F_toInt {n : Int} (hn : n.natAbs < 2 ^ 52) (way : Toward) : (FloatKind.f64.decode (F n)).toInt way = some n := by
  unfold Datum.toInt
  rw [F_whole hn]
  have := signed_at n 0 0
  rw [Nat.pow_zero, Nat.mul_one] at this
  simp only [this]
  simp
end Go.Proofs.YtpanelgdfhpoaaaGreatDoor
