/- The document's own answers about sets (package bonsairef01): what each call does, for every input. -/
import Derived.Shelf.Abstract
import Derived.Test.YtfjpbedcopdglaaGreatDoorSetM
import Derived.WalkKit
import Derived.WalkSpells
import Derived.WalkLawsBesides
import Derived.Laws.BitsAllLaws
import Derived.Lib.Hide
import Derived.RegionTactic
import Derived.OneCell
import Derived.ChangeAlike
import Derived.Test.YtfjpbedcopdglaaGreatDoorFirA
import Derived.Deep.QuietTactic
import Derived.BigQuiet
import Derived.IntWalk
namespace Go.Proofs.YtfjpbedcopdglaaGreatDoor
open Go.RowKit Go.Shelf

set_option maxHeartbeats 1000000 in
theorem power_any (n : Nat) (hn : n ≤ 63) (w : World) :
    Calls Tryz.prog 27 #[.int .i64 n] w fun e w' => e = .returned (.int .u64 ((2 ^ n : Nat) : Int)) ∧ w = w' := by
  go_enter Tryz.func27, Tryz.ntmps27
  go_wp2
  go_loop [3, 4] (fun p i => ∃ k y : Nat, k ≤ n ∧ i = .int .i64 k ∧ p = .int .u64 y ∧ y = 2 ^ k) (fun _ i => n - (intOf i).toNat)
  case atStart => exact ⟨0, 1, Nat.zero_le _, rfl, rfl, rfl⟩
  case round =>
    obtain ⟨k, y, hk, rfl, rfl, hy⟩ := hrel
    have HY := Lib.hid hy
    have hyb : k < n → y ≤ 4611686018427387904 := fun h => by
      rw [hy, show (4611686018427387904 : Nat) = 2 ^ 62 by decide]
      exact Nat.pow_le_pow_right (by decide) (by omega)
    clear hy
    by_cases hlt : k < n
    · have hyb := hyb hlt
      go_wp2
      go_round
      case rel => exact ⟨k + 1, y * 2, by omega, by go_num, by simp, by rw [HY.out, Nat.pow_succ]⟩
      case measure => simp [intOf]; omega
    · go_wp2
      go_ret
      obtain rfl : k = n := by omega
      refine ⟨?_, rfl⟩
      show Ending.returned (Value.int IntKind.u64 (y : Int)) = Ending.returned (Value.int IntKind.u64 (2 ^ k))
      rw [HY.out]; simp

theorem bit_div (x j y : Nat) (hx : x < 18446744073709551616) (hy : y = 2 ^ j) : ((IntKind.u64.wrap ((x : Int) / (y : Int))).tmod 2 == 1) = x.testBit j := by
  subst hy
  rw [Nat.testBit_eq_decide_div_mod_eq, Bool.eq_iff_iff, beq_iff_eq, decide_eq_true_iff]
  have e : ((x : Int) / ((2 ^ j : Nat) : Int)) = ((x / 2 ^ j : Nat) : Int) := (Int.natCast_ediv x (2 ^ j)).symm
  have hlt : x / 2 ^ j < 18446744073709551616 := Nat.lt_of_le_of_lt (Nat.div_le_self _ _) hx
  rw [e, IntKind.wrap_u64]
  generalize x / 2 ^ j = z at hlt
  rw [Int.emod_eq_of_lt (by omega) (by omega), Int.tmod_eq_emod_of_nonneg (by omega)]
  omega

set_option maxHeartbeats 1000000 in
theorem rhas_0 (s : S4) (hs : s.ok) (b : Nat) (hb : b / 64 = 0) (w : World) :
    Calls Tryz.prog 17 #[s.v, .int .u8 b] w fun e w' => e = .returned (.bool (s.has b)) ∧ Below w.heap.size w w' := by
  obtain ⟨j, hj⟩ : ∃ j, b % 64 = j := ⟨_, rfl⟩
  have hj1 : j ≤ 63 := by omega
  have E : Hid (s.has b = s.a.testBit j) := by
    unfold Hid S4.has S4.w
    rw [hb, hj]; rfl
  rw [E.out]
  obtain ⟨y, hy⟩ : ∃ y, y = 2 ^ j := ⟨_, rfl⟩
  have hy1 : 1 ≤ y := by rw [hy]; exact Nat.one_le_two_pow
  have hy2 : (1 : Int) ≤ (y : Int) := by omega
  have HB := Lib.hid (bit_div s.a j y hs.1 hy)
  have hpw : ∀ W, Calls Tryz.prog 27 #[.int .i64 j] W fun e w' => e = .returned (.int .u64 (y : Int)) ∧ w' = W := fun W => by
    rw [hy]; exact (power_any j hj1 W).mono fun _ _ ⟨h1, h2⟩ => ⟨h1, h2.symm⟩
  have HPW := Lib.hid hpw
  have hq : (b : Int) / 64 = 0 := by omega
  have hr : (b : Int) % 64 = j := by omega
  have hb1 : b < 256 := by omega
  have hj2 : (j : Int) ≤ 63 := by omega
  have hsl : s.a < 18446744073709551616 := hs.1
  clear hb hj hy hpw hs
  go_enter Tryz.func17, Tryz.ntmps17
  go_wp2_with fail
  go_quiet ((go_at_call 27; exact Calls.quiet_of_same (HPW.out _)))
  go_wp2_with fail
  rw [HB.out]
  go_ret
  exact ⟨rfl, below_drewN ((Below.refl _ _).alloc (Nat.le_refl _) _) nq⟩

set_option maxHeartbeats 1000000 in
theorem rhas_1 (s : S4) (hs : s.ok) (b : Nat) (hb : b / 64 = 1) (w : World) :
    Calls Tryz.prog 17 #[s.v, .int .u8 b] w fun e w' => e = .returned (.bool (s.has b)) ∧ Below w.heap.size w w' := by
  obtain ⟨j, hj⟩ : ∃ j, b % 64 = j := ⟨_, rfl⟩
  have hj1 : j ≤ 63 := by omega
  have E : Hid (s.has b = s.b.testBit j) := by
    unfold Hid S4.has S4.w
    rw [hb, hj]; rfl
  rw [E.out]
  obtain ⟨y, hy⟩ : ∃ y, y = 2 ^ j := ⟨_, rfl⟩
  have hy1 : 1 ≤ y := by rw [hy]; exact Nat.one_le_two_pow
  have hy2 : (1 : Int) ≤ (y : Int) := by omega
  have HB := Lib.hid (bit_div s.b j y hs.2.1 hy)
  have hpw : ∀ W, Calls Tryz.prog 27 #[.int .i64 j] W fun e w' => e = .returned (.int .u64 (y : Int)) ∧ w' = W := fun W => by
    rw [hy]; exact (power_any j hj1 W).mono fun _ _ ⟨h1, h2⟩ => ⟨h1, h2.symm⟩
  have HPW := Lib.hid hpw
  have hq : (b : Int) / 64 = 1 := by omega
  have hr : (b : Int) % 64 = j := by omega
  have hb1 : b < 256 := by omega
  have hj2 : (j : Int) ≤ 63 := by omega
  have hsl : s.b < 18446744073709551616 := hs.2.1
  clear hb hj hy hpw hs
  go_enter Tryz.func17, Tryz.ntmps17
  go_wp2_with fail
  go_quiet ((go_at_call 27; exact Calls.quiet_of_same (HPW.out _)))
  go_wp2_with fail
  rw [HB.out]
  go_ret
  exact ⟨rfl, below_drewN ((Below.refl _ _).alloc (Nat.le_refl _) _) nq⟩

set_option maxHeartbeats 1000000 in
theorem rhas_2 (s : S4) (hs : s.ok) (b : Nat) (hb : b / 64 = 2) (w : World) :
    Calls Tryz.prog 17 #[s.v, .int .u8 b] w fun e w' => e = .returned (.bool (s.has b)) ∧ Below w.heap.size w w' := by
  obtain ⟨j, hj⟩ : ∃ j, b % 64 = j := ⟨_, rfl⟩
  have hj1 : j ≤ 63 := by omega
  have E : Hid (s.has b = s.c.testBit j) := by
    unfold Hid S4.has S4.w
    rw [hb, hj]; rfl
  rw [E.out]
  obtain ⟨y, hy⟩ : ∃ y, y = 2 ^ j := ⟨_, rfl⟩
  have hy1 : 1 ≤ y := by rw [hy]; exact Nat.one_le_two_pow
  have hy2 : (1 : Int) ≤ (y : Int) := by omega
  have HB := Lib.hid (bit_div s.c j y hs.2.2.1 hy)
  have hpw : ∀ W, Calls Tryz.prog 27 #[.int .i64 j] W fun e w' => e = .returned (.int .u64 (y : Int)) ∧ w' = W := fun W => by
    rw [hy]; exact (power_any j hj1 W).mono fun _ _ ⟨h1, h2⟩ => ⟨h1, h2.symm⟩
  have HPW := Lib.hid hpw
  have hq : (b : Int) / 64 = 2 := by omega
  have hr : (b : Int) % 64 = j := by omega
  have hb1 : b < 256 := by omega
  have hj2 : (j : Int) ≤ 63 := by omega
  have hsl : s.c < 18446744073709551616 := hs.2.2.1
  clear hb hj hy hpw hs
  go_enter Tryz.func17, Tryz.ntmps17
  go_wp2_with fail
  go_quiet ((go_at_call 27; exact Calls.quiet_of_same (HPW.out _)))
  go_wp2_with fail
  rw [HB.out]
  go_ret
  exact ⟨rfl, below_drewN ((Below.refl _ _).alloc (Nat.le_refl _) _) nq⟩

set_option maxHeartbeats 1000000 in
theorem rhas_3 (s : S4) (hs : s.ok) (b : Nat) (hb : b / 64 = 3) (w : World) :
    Calls Tryz.prog 17 #[s.v, .int .u8 b] w fun e w' => e = .returned (.bool (s.has b)) ∧ Below w.heap.size w w' := by
  obtain ⟨j, hj⟩ : ∃ j, b % 64 = j := ⟨_, rfl⟩
  have hj1 : j ≤ 63 := by omega
  have E : Hid (s.has b = s.d.testBit j) := by
    unfold Hid S4.has S4.w
    rw [hb, hj]; rfl
  rw [E.out]
  obtain ⟨y, hy⟩ : ∃ y, y = 2 ^ j := ⟨_, rfl⟩
  have hy1 : 1 ≤ y := by rw [hy]; exact Nat.one_le_two_pow
  have hy2 : (1 : Int) ≤ (y : Int) := by omega
  have HB := Lib.hid (bit_div s.d j y hs.2.2.2 hy)
  have hpw : ∀ W, Calls Tryz.prog 27 #[.int .i64 j] W fun e w' => e = .returned (.int .u64 (y : Int)) ∧ w' = W := fun W => by
    rw [hy]; exact (power_any j hj1 W).mono fun _ _ ⟨h1, h2⟩ => ⟨h1, h2.symm⟩
  have HPW := Lib.hid hpw
  have hq : (b : Int) / 64 = 3 := by omega
  have hr : (b : Int) % 64 = j := by omega
  have hb1 : b < 256 := by omega
  have hj2 : (j : Int) ≤ 63 := by omega
  have hsl : s.d < 18446744073709551616 := hs.2.2.2
  clear hb hj hy hpw hs
  go_enter Tryz.func17, Tryz.ntmps17
  go_wp2_with fail
  go_quiet ((go_at_call 27; exact Calls.quiet_of_same (HPW.out _)))
  go_wp2_with fail
  rw [HB.out]
  go_ret
  exact ⟨rfl, below_drewN ((Below.refl _ _).alloc (Nat.le_refl _) _) nq⟩

theorem rhas_any (s : S4) (hs : s.ok) (b : Nat) (hb : b < 256) (w : World) :
    Calls Tryz.prog 17 #[s.v, .int .u8 b] w fun e w' => e = .returned (.bool (s.has b)) ∧ Below w.heap.size w w' := by
  have hq : b / 64 = 0 ∨ b / 64 = 1 ∨ b / 64 = 2 ∨ b / 64 = 3 := by omega
  rcases hq with h | h | h | h
  · exact rhas_0 s hs b h w
  · exact rhas_1 s hs b h w
  · exact rhas_2 s hs b h w
  · exact rhas_3 s hs b h w

theorem or_pow_has (x j : Nat) (h : x.testBit j = true) : x ||| 2 ^ j = x := by
  apply Nat.eq_of_testBit_eq
  intro i
  rw [Nat.testBit_or, Nat.testBit_two_pow]
  by_cases hi : j = i
  · subst hi; simp [h]
  · simp [hi]
theorem or_pow_new (x j : Nat) (h : x.testBit j = false) : x ||| 2 ^ j = x + 2 ^ j := by
  have hd : x / 2 ^ j % 2 = 0 := by
    rw [Nat.testBit_eq_decide_div_mod_eq] at h
    have := of_decide_eq_false h
    omega
  have e : x = 2 ^ j * 2 * (x / 2 ^ j / 2) + x % 2 ^ j := by
    have h1 := Nat.div_add_mod x (2 ^ j)
    have h2 := Nat.div_add_mod (x / 2 ^ j) 2
    rw [hd, Nat.add_zero] at h2
    calc x = 2 ^ j * (x / 2 ^ j) + x % 2 ^ j := h1.symm
      _ = 2 ^ j * 2 * (x / 2 ^ j / 2) + x % 2 ^ j := by rw [Nat.mul_assoc, h2]
  have hlt : x % 2 ^ j < 2 ^ j := Nat.mod_lt _ (Nat.two_pow_pos j)
  generalize x / 2 ^ j / 2 = q at e
  generalize x % 2 ^ j = r at e hlt
  subst e
  apply Nat.eq_of_testBit_eq
  intro i
  have e2 : 2 ^ j * 2 * q + r + 2 ^ j = 2 ^ (j + 1) * q + (r + 2 ^ j) := by rw [Nat.pow_succ]; omega
  have e1 : 2 ^ j * 2 * q + r = 2 ^ (j + 1) * q + r := by rw [Nat.pow_succ]
  have hr1 : r < 2 ^ (j + 1) := by rw [Nat.pow_succ]; omega
  have hr2 : r + 2 ^ j < 2 ^ (j + 1) := by rw [Nat.pow_succ]; omega
  rw [Nat.testBit_or, e2, e1, Nat.testBit_two_pow_mul_add _ hr1, Nat.testBit_two_pow_mul_add _ hr2, Nat.testBit_two_pow]
  have hor : r + 2 ^ j = 2 ^ j ||| r := by
    have := Nat.two_pow_add_eq_or_of_lt (i := j) (b := r) hlt 1
    rw [Nat.mul_one] at this
    rw [Nat.add_comm, this]
  rw [hor]
  split
  · rw [Nat.testBit_or, Nat.testBit_two_pow, Bool.or_comm]
  · rename_i h3
    have : ¬ j = i := by omega
    simp [this]

set_option maxHeartbeats 2000000 in
theorem rwith_0 (s : S4) (hs : s.ok) (b : Nat) (hb : b / 64 = 0) (h : s.has b = false) (w : World) :
    Calls Tryz.prog 18 #[s.v, .int .u8 b] w fun e w' => e = .returned (s.wth b).v ∧ Below w.heap.size w w' := by
  obtain ⟨j, hj⟩ : ∃ j, b % 64 = j := ⟨_, rfl⟩
  have hj1 : j ≤ 63 := by omega
  have ht : s.a.testBit j = false := by
    rw [← h]; unfold S4.has S4.w; rw [hb, hj]; rfl
  have hor := or_pow_new s.a j ht
  have hlt : s.a ||| 2 ^ j < 18446744073709551616 := S4.or_pow_lt hs.1 (by omega)
  rw [hor] at hlt
  obtain ⟨y, hy⟩ : ∃ y, y = 2 ^ j := ⟨_, rfl⟩
  have E : Hid (s.wth b = ⟨s.a + y, s.b, s.c, s.d⟩) := by
    unfold Hid
    simp [S4.wth, hb, hj, hor, hy]
  rw [← hy] at hlt
  have hpw : ∀ W, Calls Tryz.prog 27 #[.int .i64 j] W fun e w' => e = .returned (.int .u64 (y : Int)) ∧ W = w' := fun W => by
    rw [hy]; exact power_any j hj1 W
  have HPW := Lib.hid hpw
  have hq : (b : Int) / 64 = 0 := by omega
  have hr : (b : Int) % 64 = j := by omega
  have hb1 : b < 256 := by omega
  have hq2 : Hid ((b : Int).tdiv 64 = 0) := by unfold Hid; rw [Int.tdiv_eq_ediv_of_nonneg (by omega)]; exact hq
  have hr2 : Hid ((b : Int).tmod 64 = j) := by unfold Hid; rw [Int.tmod_eq_emod_of_nonneg (by omega)]; exact hr
  have hj2 : (j : Int) ≤ 63 := by omega
  have hsum : IntKind.u64.wrap ((s.a : Int) + (y : Int)) = ((s.a + y : Nat) : Int) := by rw [IntKind.wrap_u64]; omega
  have HS := Lib.hid hsum
  clear hb hj hy hpw hor ht hsum
  go_enter Tryz.func18, Tryz.ntmps18
  go_wp2_with fail
  refine (rhas_any s hs b hb1 _).mono ?_
  rintro e w1 ⟨rfl, hbw⟩
  rw [h]
  have hB0 := (((Below.refl _ w).alloc (Nat.le_refl _) (.cells #[.int .u64 s.a, .int .u64 s.b, .int .u64 s.c, .int .u64 s.d] 24)).alloc (by simp) (.cells #[.int .u64 0, .int .u64 0, .int .u64 0, .int .u64 0] 24)).trans (hbw.mono (by simp; omega))
  have hX := ((Box4.new w s).alloc (.cells #[.int .u64 0, .int .u64 0, .int .u64 0, .int .u64 0] 24)).below hbw (by simp; omega)
  have hR := Box4.new (w.alloc (.cells #[.int .u64 s.a, .int .u64 s.b, .int .u64 s.c, .int .u64 s.d] 24)) S4.nil
  rw [World.size_alloc] at hR
  have hR : Box4 w1 (w.heap.size + 1) S4.nil := Box4.below hR hbw (by simp)
  clear hbw
  obtain ⟨c0, c1, c2, c3⟩ := hX.cells
  obtain ⟨f0, f1, f2, f3⟩ := hX.free
  obtain ⟨r0, r1, r2, r3⟩ := hR.cells
  obtain ⟨g0, g1, g2, g3⟩ := hR.free
  go_wp2_with fail
  have hwA : IntKind.i64.wrap ((IntKind.i64.wrap (b : Int)).tdiv 64) = 0 := by rw [IntWalk.i64_in (b : Int) (by omega), hq2.out]; decide
  have hwB : (IntKind.i64.wrap (b : Int)).tmod 64 = (j : Int) := by rw [IntWalk.i64_in (b : Int) (by omega), hr2.out]
  go_region_with (go_at_call 27; refine (HPW.out _).mono ?_; rintro e w' ⟨rfl, rfl⟩)
  all_goals
    rw [HS.out]
    clear hwA hwB hq hr hq2 hr2 HS hlt HPW hj1 hj2 hb1 c0 c1 c2 c3 f0 f1 f2 f3 r0 r1 r2 r3 g0 g1 g2 g3
    have hX6 : Box4 (w1.setCell ⟨w.heap.size, 0, none⟩ (.int .u64 ((s.a + y : Nat) : Int))).drew w.heap.size ⟨s.a + y, s.b, s.c, s.d⟩ := set_block hX _
    have hR6 : Box4 (w1.setCell ⟨w.heap.size, 0, none⟩ (.int .u64 ((s.a + y : Nat) : Int))).drew (w.heap.size + 1) S4.nil := Box4.drew (hR.other (by simp) _)
    have hB6 : Below w.heap.size w (w1.setCell ⟨w.heap.size, 0, none⟩ (.int .u64 ((s.a + y : Nat) : Int))).drew := (hB0.setCell (Nat.le_refl _) _).drew
    generalize (w1.setCell ⟨w.heap.size, 0, none⟩ (.int .u64 ((s.a + y : Nat) : Int))).drew = W6 at hX6 hR6 hB6 ⊢
    rw [← E.out] at hX6
    clear E hX hR hB0
    obtain ⟨c0, c1, c2, c3⟩ := hX6.cells
    obtain ⟨r0, r1, r2, r3⟩ := hR6.cells
    obtain ⟨g0, g1, g2, g3⟩ := hR6.free
    go_wp2_with fail
    refine Box4.result (b := w.heap.size + 1) Tryz.results18 rfl rfl (hR6.store (s.wth b)) ⟨rfl, ?_⟩
    exact ((((hB6.setCell (by simp) _).setCell (by simp) _).setCell (by simp) _).setCell (by simp) _)

set_option maxHeartbeats 2000000 in
theorem rwith_1 (s : S4) (hs : s.ok) (b : Nat) (hb : b / 64 = 1) (h : s.has b = false) (w : World) :
    Calls Tryz.prog 18 #[s.v, .int .u8 b] w fun e w' => e = .returned (s.wth b).v ∧ Below w.heap.size w w' := by
  obtain ⟨j, hj⟩ : ∃ j, b % 64 = j := ⟨_, rfl⟩
  have hj1 : j ≤ 63 := by omega
  have ht : s.b.testBit j = false := by
    rw [← h]; unfold S4.has S4.w; rw [hb, hj]; rfl
  have hor := or_pow_new s.b j ht
  have hlt : s.b ||| 2 ^ j < 18446744073709551616 := S4.or_pow_lt hs.2.1 (by omega)
  rw [hor] at hlt
  obtain ⟨y, hy⟩ : ∃ y, y = 2 ^ j := ⟨_, rfl⟩
  have E : Hid (s.wth b = ⟨s.a, s.b + y, s.c, s.d⟩) := by
    unfold Hid
    simp [S4.wth, hb, hj, hor, hy]
  rw [← hy] at hlt
  have hpw : ∀ W, Calls Tryz.prog 27 #[.int .i64 j] W fun e w' => e = .returned (.int .u64 (y : Int)) ∧ W = w' := fun W => by
    rw [hy]; exact power_any j hj1 W
  have HPW := Lib.hid hpw
  have hq : (b : Int) / 64 = 1 := by omega
  have hr : (b : Int) % 64 = j := by omega
  have hb1 : b < 256 := by omega
  have hq2 : Hid ((b : Int).tdiv 64 = 1) := by unfold Hid; rw [Int.tdiv_eq_ediv_of_nonneg (by omega)]; exact hq
  have hr2 : Hid ((b : Int).tmod 64 = j) := by unfold Hid; rw [Int.tmod_eq_emod_of_nonneg (by omega)]; exact hr
  have hj2 : (j : Int) ≤ 63 := by omega
  have hsum : IntKind.u64.wrap ((s.b : Int) + (y : Int)) = ((s.b + y : Nat) : Int) := by rw [IntKind.wrap_u64]; omega
  have HS := Lib.hid hsum
  clear hb hj hy hpw hor ht hsum
  go_enter Tryz.func18, Tryz.ntmps18
  go_wp2_with fail
  refine (rhas_any s hs b hb1 _).mono ?_
  rintro e w1 ⟨rfl, hbw⟩
  rw [h]
  have hB0 := (((Below.refl _ w).alloc (Nat.le_refl _) (.cells #[.int .u64 s.a, .int .u64 s.b, .int .u64 s.c, .int .u64 s.d] 24)).alloc (by simp) (.cells #[.int .u64 0, .int .u64 0, .int .u64 0, .int .u64 0] 24)).trans (hbw.mono (by simp; omega))
  have hX := ((Box4.new w s).alloc (.cells #[.int .u64 0, .int .u64 0, .int .u64 0, .int .u64 0] 24)).below hbw (by simp; omega)
  have hR := Box4.new (w.alloc (.cells #[.int .u64 s.a, .int .u64 s.b, .int .u64 s.c, .int .u64 s.d] 24)) S4.nil
  rw [World.size_alloc] at hR
  have hR : Box4 w1 (w.heap.size + 1) S4.nil := Box4.below hR hbw (by simp)
  clear hbw
  obtain ⟨c0, c1, c2, c3⟩ := hX.cells
  obtain ⟨f0, f1, f2, f3⟩ := hX.free
  obtain ⟨r0, r1, r2, r3⟩ := hR.cells
  obtain ⟨g0, g1, g2, g3⟩ := hR.free
  go_wp2_with fail
  have hwA : IntKind.i64.wrap ((IntKind.i64.wrap (b : Int)).tdiv 64) = 1 := by rw [IntWalk.i64_in (b : Int) (by omega), hq2.out]; decide
  have hwB : (IntKind.i64.wrap (b : Int)).tmod 64 = (j : Int) := by rw [IntWalk.i64_in (b : Int) (by omega), hr2.out]
  go_region_with (go_at_call 27; refine (HPW.out _).mono ?_; rintro e w' ⟨rfl, rfl⟩)
  all_goals
    rw [HS.out]
    clear hwA hwB hq hr hq2 hr2 HS hlt HPW hj1 hj2 hb1 c0 c1 c2 c3 f0 f1 f2 f3 r0 r1 r2 r3 g0 g1 g2 g3
    have hX6 : Box4 (w1.setCell ⟨w.heap.size, 1, none⟩ (.int .u64 ((s.b + y : Nat) : Int))).drew w.heap.size ⟨s.a, s.b + y, s.c, s.d⟩ := set_block hX _
    have hR6 : Box4 (w1.setCell ⟨w.heap.size, 1, none⟩ (.int .u64 ((s.b + y : Nat) : Int))).drew (w.heap.size + 1) S4.nil := Box4.drew (hR.other (by simp) _)
    have hB6 : Below w.heap.size w (w1.setCell ⟨w.heap.size, 1, none⟩ (.int .u64 ((s.b + y : Nat) : Int))).drew := (hB0.setCell (Nat.le_refl _) _).drew
    generalize (w1.setCell ⟨w.heap.size, 1, none⟩ (.int .u64 ((s.b + y : Nat) : Int))).drew = W6 at hX6 hR6 hB6 ⊢
    rw [← E.out] at hX6
    clear E hX hR hB0
    obtain ⟨c0, c1, c2, c3⟩ := hX6.cells
    obtain ⟨r0, r1, r2, r3⟩ := hR6.cells
    obtain ⟨g0, g1, g2, g3⟩ := hR6.free
    go_wp2_with fail
    refine Box4.result (b := w.heap.size + 1) Tryz.results18 rfl rfl (hR6.store (s.wth b)) ⟨rfl, ?_⟩
    exact ((((hB6.setCell (by simp) _).setCell (by simp) _).setCell (by simp) _).setCell (by simp) _)

set_option maxHeartbeats 2000000 in
theorem rwith_2 (s : S4) (hs : s.ok) (b : Nat) (hb : b / 64 = 2) (h : s.has b = false) (w : World) :
    Calls Tryz.prog 18 #[s.v, .int .u8 b] w fun e w' => e = .returned (s.wth b).v ∧ Below w.heap.size w w' := by
  obtain ⟨j, hj⟩ : ∃ j, b % 64 = j := ⟨_, rfl⟩
  have hj1 : j ≤ 63 := by omega
  have ht : s.c.testBit j = false := by
    rw [← h]; unfold S4.has S4.w; rw [hb, hj]; rfl
  have hor := or_pow_new s.c j ht
  have hlt : s.c ||| 2 ^ j < 18446744073709551616 := S4.or_pow_lt hs.2.2.1 (by omega)
  rw [hor] at hlt
  obtain ⟨y, hy⟩ : ∃ y, y = 2 ^ j := ⟨_, rfl⟩
  have E : Hid (s.wth b = ⟨s.a, s.b, s.c + y, s.d⟩) := by
    unfold Hid
    simp [S4.wth, hb, hj, hor, hy]
  rw [← hy] at hlt
  have hpw : ∀ W, Calls Tryz.prog 27 #[.int .i64 j] W fun e w' => e = .returned (.int .u64 (y : Int)) ∧ W = w' := fun W => by
    rw [hy]; exact power_any j hj1 W
  have HPW := Lib.hid hpw
  have hq : (b : Int) / 64 = 2 := by omega
  have hr : (b : Int) % 64 = j := by omega
  have hb1 : b < 256 := by omega
  have hq2 : Hid ((b : Int).tdiv 64 = 2) := by unfold Hid; rw [Int.tdiv_eq_ediv_of_nonneg (by omega)]; exact hq
  have hr2 : Hid ((b : Int).tmod 64 = j) := by unfold Hid; rw [Int.tmod_eq_emod_of_nonneg (by omega)]; exact hr
  have hj2 : (j : Int) ≤ 63 := by omega
  have hsum : IntKind.u64.wrap ((s.c : Int) + (y : Int)) = ((s.c + y : Nat) : Int) := by rw [IntKind.wrap_u64]; omega
  have HS := Lib.hid hsum
  clear hb hj hy hpw hor ht hsum
  go_enter Tryz.func18, Tryz.ntmps18
  go_wp2_with fail
  refine (rhas_any s hs b hb1 _).mono ?_
  rintro e w1 ⟨rfl, hbw⟩
  rw [h]
  have hB0 := (((Below.refl _ w).alloc (Nat.le_refl _) (.cells #[.int .u64 s.a, .int .u64 s.b, .int .u64 s.c, .int .u64 s.d] 24)).alloc (by simp) (.cells #[.int .u64 0, .int .u64 0, .int .u64 0, .int .u64 0] 24)).trans (hbw.mono (by simp; omega))
  have hX := ((Box4.new w s).alloc (.cells #[.int .u64 0, .int .u64 0, .int .u64 0, .int .u64 0] 24)).below hbw (by simp; omega)
  have hR := Box4.new (w.alloc (.cells #[.int .u64 s.a, .int .u64 s.b, .int .u64 s.c, .int .u64 s.d] 24)) S4.nil
  rw [World.size_alloc] at hR
  have hR : Box4 w1 (w.heap.size + 1) S4.nil := Box4.below hR hbw (by simp)
  clear hbw
  obtain ⟨c0, c1, c2, c3⟩ := hX.cells
  obtain ⟨f0, f1, f2, f3⟩ := hX.free
  obtain ⟨r0, r1, r2, r3⟩ := hR.cells
  obtain ⟨g0, g1, g2, g3⟩ := hR.free
  go_wp2_with fail
  have hwA : IntKind.i64.wrap ((IntKind.i64.wrap (b : Int)).tdiv 64) = 2 := by rw [IntWalk.i64_in (b : Int) (by omega), hq2.out]; decide
  have hwB : (IntKind.i64.wrap (b : Int)).tmod 64 = (j : Int) := by rw [IntWalk.i64_in (b : Int) (by omega), hr2.out]
  go_region_with (go_at_call 27; refine (HPW.out _).mono ?_; rintro e w' ⟨rfl, rfl⟩)
  all_goals
    rw [HS.out]
    clear hwA hwB hq hr hq2 hr2 HS hlt HPW hj1 hj2 hb1 c0 c1 c2 c3 f0 f1 f2 f3 r0 r1 r2 r3 g0 g1 g2 g3
    have hX6 : Box4 (w1.setCell ⟨w.heap.size, 2, none⟩ (.int .u64 ((s.c + y : Nat) : Int))).drew w.heap.size ⟨s.a, s.b, s.c + y, s.d⟩ := set_block hX _
    have hR6 : Box4 (w1.setCell ⟨w.heap.size, 2, none⟩ (.int .u64 ((s.c + y : Nat) : Int))).drew (w.heap.size + 1) S4.nil := Box4.drew (hR.other (by simp) _)
    have hB6 : Below w.heap.size w (w1.setCell ⟨w.heap.size, 2, none⟩ (.int .u64 ((s.c + y : Nat) : Int))).drew := (hB0.setCell (Nat.le_refl _) _).drew
    generalize (w1.setCell ⟨w.heap.size, 2, none⟩ (.int .u64 ((s.c + y : Nat) : Int))).drew = W6 at hX6 hR6 hB6 ⊢
    rw [← E.out] at hX6
    clear E hX hR hB0
    obtain ⟨c0, c1, c2, c3⟩ := hX6.cells
    obtain ⟨r0, r1, r2, r3⟩ := hR6.cells
    obtain ⟨g0, g1, g2, g3⟩ := hR6.free
    go_wp2_with fail
    refine Box4.result (b := w.heap.size + 1) Tryz.results18 rfl rfl (hR6.store (s.wth b)) ⟨rfl, ?_⟩
    exact ((((hB6.setCell (by simp) _).setCell (by simp) _).setCell (by simp) _).setCell (by simp) _)

set_option maxHeartbeats 2000000 in
theorem rwith_3 (s : S4) (hs : s.ok) (b : Nat) (hb : b / 64 = 3) (h : s.has b = false) (w : World) :
    Calls Tryz.prog 18 #[s.v, .int .u8 b] w fun e w' => e = .returned (s.wth b).v ∧ Below w.heap.size w w' := by
  obtain ⟨j, hj⟩ : ∃ j, b % 64 = j := ⟨_, rfl⟩
  have hj1 : j ≤ 63 := by omega
  have ht : s.d.testBit j = false := by
    rw [← h]; unfold S4.has S4.w; rw [hb, hj]; rfl
  have hor := or_pow_new s.d j ht
  have hlt : s.d ||| 2 ^ j < 18446744073709551616 := S4.or_pow_lt hs.2.2.2 (by omega)
  rw [hor] at hlt
  obtain ⟨y, hy⟩ : ∃ y, y = 2 ^ j := ⟨_, rfl⟩
  have E : Hid (s.wth b = ⟨s.a, s.b, s.c, s.d + y⟩) := by
    unfold Hid
    simp [S4.wth, hb, hj, hor, hy]
  rw [← hy] at hlt
  have hpw : ∀ W, Calls Tryz.prog 27 #[.int .i64 j] W fun e w' => e = .returned (.int .u64 (y : Int)) ∧ W = w' := fun W => by
    rw [hy]; exact power_any j hj1 W
  have HPW := Lib.hid hpw
  have hq : (b : Int) / 64 = 3 := by omega
  have hr : (b : Int) % 64 = j := by omega
  have hb1 : b < 256 := by omega
  have hq2 : Hid ((b : Int).tdiv 64 = 3) := by unfold Hid; rw [Int.tdiv_eq_ediv_of_nonneg (by omega)]; exact hq
  have hr2 : Hid ((b : Int).tmod 64 = j) := by unfold Hid; rw [Int.tmod_eq_emod_of_nonneg (by omega)]; exact hr
  have hj2 : (j : Int) ≤ 63 := by omega
  have hsum : IntKind.u64.wrap ((s.d : Int) + (y : Int)) = ((s.d + y : Nat) : Int) := by rw [IntKind.wrap_u64]; omega
  have HS := Lib.hid hsum
  clear hb hj hy hpw hor ht hsum
  go_enter Tryz.func18, Tryz.ntmps18
  go_wp2_with fail
  refine (rhas_any s hs b hb1 _).mono ?_
  rintro e w1 ⟨rfl, hbw⟩
  rw [h]
  have hB0 := (((Below.refl _ w).alloc (Nat.le_refl _) (.cells #[.int .u64 s.a, .int .u64 s.b, .int .u64 s.c, .int .u64 s.d] 24)).alloc (by simp) (.cells #[.int .u64 0, .int .u64 0, .int .u64 0, .int .u64 0] 24)).trans (hbw.mono (by simp; omega))
  have hX := ((Box4.new w s).alloc (.cells #[.int .u64 0, .int .u64 0, .int .u64 0, .int .u64 0] 24)).below hbw (by simp; omega)
  have hR := Box4.new (w.alloc (.cells #[.int .u64 s.a, .int .u64 s.b, .int .u64 s.c, .int .u64 s.d] 24)) S4.nil
  rw [World.size_alloc] at hR
  have hR : Box4 w1 (w.heap.size + 1) S4.nil := Box4.below hR hbw (by simp)
  clear hbw
  obtain ⟨c0, c1, c2, c3⟩ := hX.cells
  obtain ⟨f0, f1, f2, f3⟩ := hX.free
  obtain ⟨r0, r1, r2, r3⟩ := hR.cells
  obtain ⟨g0, g1, g2, g3⟩ := hR.free
  go_wp2_with fail
  have hwA : IntKind.i64.wrap ((IntKind.i64.wrap (b : Int)).tdiv 64) = 3 := by rw [IntWalk.i64_in (b : Int) (by omega), hq2.out]; decide
  have hwB : (IntKind.i64.wrap (b : Int)).tmod 64 = (j : Int) := by rw [IntWalk.i64_in (b : Int) (by omega), hr2.out]
  go_region_with (go_at_call 27; refine (HPW.out _).mono ?_; rintro e w' ⟨rfl, rfl⟩)
  all_goals
    rw [HS.out]
    clear hwA hwB hq hr hq2 hr2 HS hlt HPW hj1 hj2 hb1 c0 c1 c2 c3 f0 f1 f2 f3 r0 r1 r2 r3 g0 g1 g2 g3
    have hX6 : Box4 (w1.setCell ⟨w.heap.size, 3, none⟩ (.int .u64 ((s.d + y : Nat) : Int))).drew w.heap.size ⟨s.a, s.b, s.c, s.d + y⟩ := set_block hX _
    have hR6 : Box4 (w1.setCell ⟨w.heap.size, 3, none⟩ (.int .u64 ((s.d + y : Nat) : Int))).drew (w.heap.size + 1) S4.nil := Box4.drew (hR.other (by simp) _)
    have hB6 : Below w.heap.size w (w1.setCell ⟨w.heap.size, 3, none⟩ (.int .u64 ((s.d + y : Nat) : Int))).drew := (hB0.setCell (Nat.le_refl _) _).drew
    generalize (w1.setCell ⟨w.heap.size, 3, none⟩ (.int .u64 ((s.d + y : Nat) : Int))).drew = W6 at hX6 hR6 hB6 ⊢
    rw [← E.out] at hX6
    clear E hX hR hB0
    obtain ⟨c0, c1, c2, c3⟩ := hX6.cells
    obtain ⟨r0, r1, r2, r3⟩ := hR6.cells
    obtain ⟨g0, g1, g2, g3⟩ := hR6.free
    go_wp2_with fail
    refine Box4.result (b := w.heap.size + 1) Tryz.results18 rfl rfl (hR6.store (s.wth b)) ⟨rfl, ?_⟩
    exact ((((hB6.setCell (by simp) _).setCell (by simp) _).setCell (by simp) _).setCell (by simp) _)

set_option maxHeartbeats 1000000 in
theorem rwith_same (s : S4) (hs : s.ok) (b : Nat) (hb1 : b < 256) (h : s.has b = true) (w : World) :
    Calls Tryz.prog 18 #[s.v, .int .u8 b] w fun e w' => e = .returned s.v ∧ Below w.heap.size w w' := by
  go_enter Tryz.func18, Tryz.ntmps18
  go_wp2_with fail
  refine (rhas_any s hs b hb1 _).mono ?_
  rintro e w1 ⟨rfl, hbw⟩
  rw [h]
  have hB0 := (((Below.refl _ w).alloc (Nat.le_refl _) (.cells #[.int .u64 s.a, .int .u64 s.b, .int .u64 s.c, .int .u64 s.d] 24)).alloc (by simp) (.cells #[.int .u64 0, .int .u64 0, .int .u64 0, .int .u64 0] 24)).trans (hbw.mono (by simp; omega))
  have hX := ((Box4.new w s).alloc (.cells #[.int .u64 0, .int .u64 0, .int .u64 0, .int .u64 0] 24)).below hbw (by simp; omega)
  have hR := Box4.new (w.alloc (.cells #[.int .u64 s.a, .int .u64 s.b, .int .u64 s.c, .int .u64 s.d] 24)) S4.nil
  rw [World.size_alloc] at hR
  have hR : Box4 w1 (w.heap.size + 1) S4.nil := Box4.below hR hbw (by simp)
  clear hbw
  obtain ⟨c0, c1, c2, c3⟩ := hX.cells
  obtain ⟨r0, r1, r2, r3⟩ := hR.cells
  obtain ⟨g0, g1, g2, g3⟩ := hR.free
  go_wp2_with fail
  refine Box4.result (b := w.heap.size + 1) Tryz.results18 rfl rfl (hR.store s) ⟨rfl, ?_⟩
  exact (((hB0.setCell (by simp) _).setCell (by simp) _).setCell (by simp) _).setCell (by simp) _

theorem wth_same (s : S4) (hs : s.ok) (b : Nat) (hb : b < 256) (h : s.has b = true) : s.wth b = s := by
  refine S4.ext (S4.ok_wth hs b) hs fun n hn => ?_
  rw [S4.has_wth s hb hn]
  by_cases e : n = b
  · subst e; simp [h]
  · simp [e]
theorem rwith_any (s : S4) (hs : s.ok) (b : Nat) (hb : b < 256) (w : World) :
    Calls Tryz.prog 18 #[s.v, .int .u8 b] w fun e w' => e = .returned (s.wth b).v ∧ Below w.heap.size w w' := by
  cases h : s.has b with
  | true => rw [wth_same s hs b hb h]; exact rwith_same s hs b hb h w
  | false =>
    have hq : b / 64 = 0 ∨ b / 64 = 1 ∨ b / 64 = 2 ∨ b / 64 = 3 := by omega
    rcases hq with h1 | h1 | h1 | h1
    · exact rwith_0 s hs b h1 h w
    · exact rwith_1 s hs b h1 h w
    · exact rwith_2 s hs b h1 h w
    · exact rwith_3 s hs b h1 h w
end Go.Proofs.YtfjpbedcopdglaaGreatDoor
