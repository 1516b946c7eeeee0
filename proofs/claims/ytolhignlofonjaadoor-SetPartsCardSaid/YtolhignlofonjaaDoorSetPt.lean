/- SetParts' walk: for every two sets. -/
import Derived.Deep.RegionHeld3
import Derived.Test.YtolhignlofonjaaDoorSetD
import Derived.Test.YtolhignlofonjaaDoorSetT
namespace Go.Proofs.YtolhignlofonjaaDoor
open Go.RowKit Go.Shelf

theorem PairsAt.drew {B : Nat} {W : World} {v : Value} {R : List (UInt8 × UInt8)} (h : PairsAt B W v R) : PairsAt B W.drew v R := h
theorem PairsAt.more {B B' : Nat} {W : World} {v : Value} {R : List (UInt8 × UInt8)} (h : PairsAt B W v R) (hB : B ≤ B') : PairsAt B' W v R := by
  obtain ⟨p, cap, h1, h2⟩ := h
  refine ⟨p, cap, h1, fun j hj => ?_⟩
  obtain ⟨g, e, hg, c⟩ := h2 j hj
  exact ⟨g, e, by omega, c⟩

theorem St.store {w W0 W : World} {N g o : Nat} {v : Value} (h : St w W0 N W) (hN : w.heap.size ≤ N) (ht : 0 < N) (hg : N ≤ g) : St w W0 N (W.setCell ⟨g, o, none⟩ v) := by
  have hb : Below N W (W.setCell ⟨g, o, none⟩ v) := (Below.refl N W).setCell (p := ⟨g, o, none⟩) hg v
  exact ⟨h.1.below hb ht, h.2.1.setCell (p := ⟨g, o, none⟩) (by show w.heap.size ≤ g; omega) v, Nat.le_trans h.2.2.1 hb.size, fun k hk => (hb.block k hk).trans (h.2.2.2 k hk)⟩

theorem setCell_some {w : World} {p q : Addr} {x v : Value} (h : w.cell? q = some v) : ∃ v', (w.setCell p x).cell? q = some v' := by
  by_cases e : p = q
  · subst e; exact ⟨x, World.cell?_setCell_same w p x h⟩
  · exact ⟨v, (World.cell?_setCell_other w p q x e).trans h⟩

theorem lst_none {s : S4} : s.lst.length = 0 ↔ ∀ n, n < 256 → s.has n = false := by
  rw [List.length_eq_zero_iff]
  constructor
  · intro h n hn
    rw [Bool.eq_false_iff]
    intro hh
    have := S4.mem_lst.2 ⟨hn, hh⟩
    rw [h] at this
    cases this
  · intro h
    rw [List.eq_nil_iff_forall_not_mem]
    intro n hn
    obtain ⟨h1, h2⟩ := S4.mem_lst.1 hn
    rw [h n h1] at h2
    cases h2

theorem eq_has {s t : S4} (hs : s.ok) (ht : t.ok) (h : ∀ n, n < 256 → s.has n = t.has n) : s = t := by
  refine S4.lst_inj hs ht ?_
  unfold S4.lst
  exact List.filter_congr fun n hn => h n (List.mem_range.1 hn)

theorem sub_same {x y : S4} (hx : x.ok) (hy : y.ok) : same4 (x.and y) x = (((x.minus y).lst.length : Int) == 0) := by
  rw [Bool.eq_iff_iff, same4_iff, beq_iff_eq]
  constructor
  · intro h
    have : (x.minus y).lst.length = 0 := lst_none.2 fun n hn => by
      rw [S4.has_minus x hy n]
      have h2 := S4.has_and x y n
      rw [h] at h2
      cases hxn : x.has n <;> cases hyn : y.has n <;> simp_all
    omega
  · intro h
    have h0 : (x.minus y).lst.length = 0 := by omega
    refine eq_has (S4.ok_and hx hy) hx fun n hn => ?_
    have h2 := lst_none.1 h0 n hn
    rw [S4.has_minus x hy n] at h2
    rw [S4.has_and x y n]
    cases hxn : x.has n <;> cases hyn : y.has n <;> simp_all

theorem meets_same {x y : S4} (hx : x.ok) (hy : y.ok) : (!sm (x.and y).a (x.and y).b (x.and y).c (x.and y).d 0 0 0 0) = decide (0 < (x.and y).lst.length) := by
  have h : sm (x.and y).a (x.and y).b (x.and y).c (x.and y).d 0 0 0 0 = same4 (x.and y) S4.nil := rfl
  rw [h]
  have h1 : same4 (x.and y) S4.nil = decide ((x.and y).lst.length = 0) := by
    rw [Bool.eq_iff_iff, same4_iff, decide_eq_true_eq]
    constructor
    · intro e
      exact lst_none.2 fun n _ => by rw [e]; exact S4.has_nil n
    · intro e
      exact eq_has (S4.ok_and hx hy) S4.ok_nil fun n hn => by rw [lst_none.1 e n hn, S4.has_nil]
  rw [h1]
  cases hl : (x.and y).lst.length <;> simp

set_option maxRecDepth 100000 in
set_option maxHeartbeats 8000000 in
theorem parts_walk (x y : S4) (hx : x.ok) (hy : y.ok) (w : World) (hT : Tab w) :
    Calls Tryd.prog 4 #[x.v, y.v] w fun e w' => e = .returned (.bool true) ∧ Below w.heap.size w w' := by
  have hR256 : (runsOf x).length ≤ 256 := by have := rs_len (lstB x); have := lst_le x; have := lstB_len x; unfold runsOf; omega
  have htl := hT.lt
  obtain ⟨b1, hb1⟩ : ∃ b1, same4 (x.and y) x = b1 := ⟨_, rfl⟩
  obtain ⟨b2, hb2⟩ : ∃ b2, (!sm (x.and y).a (x.and y).b (x.and y).c (x.and y).d 0 0 0 0) = b2 := ⟨_, rfl⟩
  obtain ⟨z, hz⟩ : ∃ z, cmpS x y = z := ⟨_, rfl⟩
  have hsub1 : ∀ w, Calls Tryd.prog 29 #[x.v, y.v] w fun e w' => e = .returned (.bool b1) ∧ Below w.heap.size w w' := fun w => by rw [← hb1]; exact subset_any x y hx hy w
  have hsub2 : ∀ w, Calls Tryd.prog 30 #[x.v, y.v] w fun e w' => e = .returned (.bool b1) ∧ Below w.heap.size w w' := fun w => by rw [← hb1, sub_same hx hy]; exact rsubset_any x y hx hy w
  have hme1 : ∀ w, Calls Tryd.prog 31 #[x.v, y.v] w fun e w' => e = .returned (.bool b2) ∧ Below w.heap.size w w' := fun w => by rw [← hb2]; exact meets_any x y hx hy w
  have hme2 : ∀ w, Calls Tryd.prog 32 #[x.v, y.v] w fun e w' => e = .returned (.bool b2) ∧ Below w.heap.size w w' := fun w => by rw [← hb2, meets_same hx hy]; exact rmeets_any x y hx hy w
  have hcm1 : ∀ w, Tab w → Calls Tryd.prog 33 #[x.v, y.v] w fun e w' => e = .returned (.int .i64 z) ∧ Below w.heap.size w w' := fun w hT => by rw [← hz]; exact compare_any x y hx hy w hT
  have hcm2 : ∀ w, Calls Tryd.prog 34 #[x.v, y.v] w fun e w' => e = .returned (.int .i64 z) ∧ Below w.heap.size w w' := fun w => by rw [← hz]; exact rcompare_any x y hx hy w
  clear hb1 hb2 hz
  go_enter Tryd.func4, Tryd.ntmps4
  go_wp2_with fail
  have hB0 : Below w.heap.size w ((w.alloc (.cells #[.int .u64 x.a, .int .u64 x.b, .int .u64 x.c, .int .u64 x.d] 24)).alloc (.cells #[.int .u64 y.a, .int .u64 y.b, .int .u64 y.c, .int .u64 y.d] 24)) := ((Below.refl _ w).alloc (Nat.le_refl _) _).alloc (by simp) _
  have hS0 := St.start (hT.step hB0) hB0
  have hbx := (Box4.new w x).alloc (.cells #[.int .u64 y.a, .int .u64 y.b, .int .u64 y.c, .int .u64 y.d] 24)
  have hby := Box4.new (w.alloc (.cells #[.int .u64 x.a, .int .u64 x.b, .int .u64 x.c, .int .u64 x.d] 24)) y
  rw [World.size_alloc] at hby
  obtain ⟨W0, hW0⟩ : ∃ W, W = ((w.alloc (.cells #[.int .u64 x.a, .int .u64 x.b, .int .u64 x.c, .int .u64 x.d] 24)).alloc (.cells #[.int .u64 y.a, .int .u64 y.b, .int .u64 y.c, .int .u64 y.d] 24)) := ⟨_, rfl⟩
  have hN0 : W0.heap.size = w.heap.size + 2 := by rw [hW0]; simp
  rw [← hW0] at hbx hby hS0 ⊢
  clear hW0 hB0
  rw [hN0] at hS0
  have hS := hS0
  clear hS0
  obtain ⟨x0, x1, x2, x3⟩ := hbx.cells
  refine (runs_any x hx _ hS.tab).mono ?_
  rintro e w1 ⟨vl, rfl, hrow, hb⟩
  have hS := hS.step hb
  have hP := Lib.hid (pairs_of_row hrow)
  have HR := Lib.hid hrow
  have hw1 := hb.size
  clear hb hrow x0 x1 x2 x3
  obtain ⟨x0, x1, x2, x3⟩ := (hS.box hbx (by omega)).cells
  go_wp2_with fail
  refine (rruns_any x hx _).mono ?_
  rintro e w2 ⟨vq, ⟨rfl, hrow⟩, hb⟩
  have hS := hS.step hb
  have hP2 := Lib.hid (pairs_of_row hrow)
  have hP' := Lib.hid (hP.out.below hb (Nat.le_refl _))
  have hz := hb.size
  have HR2 := Lib.hid (ownBelow HR.out hb)
  clear hb hrow x0 x1 x2 x3 hP HR
  go_wp2_with fail
  refine (rsame_any (runsOf x) hR256 _ _ _ _ (Nat.le_refl _) (hP'.out.more hz) hP2.out).mono ?_
  rintro e w3 ⟨rfl, hb⟩
  have hS := hS.step hb
  have HR3 := ownBelow HR2.out hb
  clear hb hP' hP2 HR2
  obtain ⟨hrl, hrow⟩ := HR3
  have hform : ∃ p n cap, vl = .slice p n cap ∧ (p = none → n = 0) ∧ n ≤ 256 ∧ ∃ g, (p = none ∨ p = some ⟨g, 0, none⟩) ∧ W0.heap.size ≤ g ∧ ∀ o, o < n * 2 → (∃ u, w3.cell? ⟨g, o, none⟩ = some u) ∧ w3.frozen? ⟨g, o, none⟩ = false := by
    rcases hrow with ⟨rfl, _⟩ | ⟨g, cap, cur, rfl, hg, hh, hn, _, hcs, _⟩
    · exact ⟨none, 0, 0, rfl, fun _ => rfl, by omega, W0.heap.size, .inl rfl, Nat.le_refl _, fun o h => by omega⟩
    · refine ⟨some ⟨g, 0, none⟩, _, cap, rfl, fun h => (by cases h), hR256, g, .inr rfl, hg, fun o ho => ?_⟩
      have hlt : o < cur.size := by rw [hcs]; exact Nat.lt_of_lt_of_le ho (Nat.mul_le_mul_right 2 hn)
      exact ⟨⟨cur[o], by unfold World.cell?; rw [hh]; simp [hlt]⟩, by unfold World.frozen?; rw [hh]; simp⟩
  clear hrow hrl
  obtain ⟨p, n, cap, rfl, hpn, hn, g, hpg, hg, hcell⟩ := hform
  have HC := Lib.hid hcell
  clear hcell
  go_wp2_with fail
  go_loopw [7] (fun i wr => ∃ k : Nat, k ≤ n ∧ i = .int .i64 k ∧ St w W0 (w.heap.size + 2) wr ∧ ∀ o, o < n * 2 → (∃ u, wr.cell? ⟨g, o, none⟩ = some u) ∧ wr.frozen? ⟨g, o, none⟩ = false) (fun i _ => n - (intOf i).toNat)
  case atStart => exact ⟨0, by omega, rfl, hS, HC.out⟩
  case round =>
    clear hS HC
    obtain ⟨k, hk, rfl, hS, hcell⟩ := hrel
    have HC := Lib.hid hcell
    clear hcell
    by_cases hlt : k < n
    · have hd : decide ((k : Int) < (n : Int)) = true := by simp; omega
      have hin : (k : Int) < (n : Int) := by omega
      obtain rfl : p = some ⟨g, 0, none⟩ := by
        rcases hpg with rfl | h
        · have := hpn rfl; omega
        · exact h
      obtain ⟨⟨u, hu⟩, hf⟩ := HC.out (k * 2) (by omega)
      go_wp2_with fail
      go_roundw
      case rel =>
        refine ⟨k + 1, by omega, by go_num, hS.store (by omega) (by omega) (by omega), fun o ho => ?_⟩
        obtain ⟨⟨u', hu'⟩, hf'⟩ := HC.out o ho
        exact ⟨setCell_some hu', by rw [World.frozen?_setCell]; exact hf'⟩
      case measure => first | (simp [intOf]; done) | (simp [intOf]; omega)
    · have hd : decide ((k : Int) < (n : Int)) = false := by simp; omega
      clear HC
      obtain ⟨x0, x1, x2, x3⟩ := (hS.box hbx (by omega)).cells
      obtain ⟨y0, y1, y2, y3⟩ := (hS.box hby (by omega)).cells
      go_wp2_with fail
      obtain ⟨p0, p1, p2, p3⟩ := hbx.cells
      obtain ⟨q0, q1, q2, q3⟩ := hby.cells
      have hcx := hS.cell
      clear hpn hpg hg hn hd hlt hk hw1 hz hbx hby
      simp only [List.append_eq, List.cons_append, List.nil_append]
      go_region_held3 (fun w' => w'.cell? ⟨w.heap.size, 0, none⟩ = some (.int .u64 x.a) ∧ w'.cell? ⟨w.heap.size, 1, none⟩ = some (.int .u64 x.b) ∧ w'.cell? ⟨w.heap.size, 2, none⟩ = some (.int .u64 x.c) ∧ w'.cell? ⟨w.heap.size, 3, none⟩ = some (.int .u64 x.d) ∧ w'.cell? ⟨w.heap.size + 1, 0, none⟩ = some (.int .u64 y.a) ∧ w'.cell? ⟨w.heap.size + 1, 1, none⟩ = some (.int .u64 y.b) ∧ w'.cell? ⟨w.heap.size + 1, 2, none⟩ = some (.int .u64 y.c) ∧ w'.cell? ⟨w.heap.size + 1, 3, none⟩ = some (.int .u64 y.d))
        (first
          | go_keep
          | (go_split_ands
             refine ⟨?_, ?_, ?_, ?_, ?_, ?_, ?_, ?_⟩
             all_goals (rw [hcx _ _ (by omega)]; assumption)))
        (first
              | (go_at_call 18; refine (runs_any x hx _ (by exact hS.tab)).mono ?_; rintro e w1 ⟨vr, rfl, hrow, hb⟩; have hP := Lib.hid (pairs_of_row hrow); have hS := St.step (by first | exact hS | exact St.drew hS) hb; clear hb; have hcx := hS.cell; clear hrow)
              | (go_at_call 20; refine (rruns_any x hx _).mono ?_; rintro e w2 ⟨vq, ⟨rfl, hrow⟩, hb⟩; have hP2 := Lib.hid (pairs_of_row hrow); have hP := Lib.hid (by first | exact hP.out.below hb (Nat.le_refl _) | exact hP.out.drew.below hb (Nat.le_refl _)); have hPz := hb.size; have hS := St.step (by first | exact hS | exact St.drew hS) hb; clear hb; have hcx := hS.cell; clear hrow)
              | (go_at_call 19; refine (rsame_any (runsOf x) hR256 _ _ _ _ (Nat.le_refl _) (by first | exact hP.out.more hPz | exact (hP.out.more hPz).drew) (by first | exact hP2.out | exact hP2.out.drew)).mono ?_; rintro e w1 ⟨rfl, hb⟩; have hS := St.step (by first | exact hS | exact St.drew hS) hb; clear hb; have hcx := hS.cell; clear hP hP2 hPz)
              | (go_at_call 21; refine (or_any x y hx hy _).mono ?_; rintro e w1 ⟨rfl, hb⟩; have hS := St.step (by first | exact hS | exact St.drew hS) hb; clear hb; have hcx := hS.cell)
              | (go_at_call 22; refine (ror_any x y hx hy _).mono ?_; rintro e w1 ⟨rfl, hb⟩; have hS := St.step (by first | exact hS | exact St.drew hS) hb; clear hb; have hcx := hS.cell)
              | (go_at_call 23; refine (and_any x y hx hy _).mono ?_; rintro e w1 ⟨rfl, hb⟩; have hS := St.step (by first | exact hS | exact St.drew hS) hb; clear hb; have hcx := hS.cell)
              | (go_at_call 24; refine (rand_any x y hx hy _).mono ?_; rintro e w1 ⟨rfl, hb⟩; have hS := St.step (by first | exact hS | exact St.drew hS) hb; clear hb; have hcx := hS.cell)
              | (go_at_call 25; refine (minus_any x y hx hy _).mono ?_; rintro e w1 ⟨rfl, hb⟩; have hS := St.step (by first | exact hS | exact St.drew hS) hb; clear hb; have hcx := hS.cell)
              | (go_at_call 26; refine (rminus_any x y hx hy _).mono ?_; rintro e w1 ⟨rfl, hb⟩; have hS := St.step (by first | exact hS | exact St.drew hS) hb; clear hb; have hcx := hS.cell)
              | (go_at_call 27; refine (not_any x hx _).mono ?_; rintro e w1 ⟨rfl, hb⟩; have hS := St.step (by first | exact hS | exact St.drew hS) hb; clear hb; have hcx := hS.cell)
              | (go_at_call 28; refine (rnot_any x hx _).mono ?_; rintro e w1 ⟨rfl, hb⟩; have hS := St.step (by first | exact hS | exact St.drew hS) hb; clear hb; have hcx := hS.cell)
              | (go_at_call 29; refine (hsub1 _).mono ?_; rintro e w1 ⟨rfl, hb⟩; have hS := St.step (by first | exact hS | exact St.drew hS) hb; clear hb; have hcx := hS.cell)
              | (go_at_call 30; refine (hsub2 _).mono ?_; rintro e w1 ⟨rfl, hb⟩; have hS := St.step (by first | exact hS | exact St.drew hS) hb; clear hb; have hcx := hS.cell)
              | (go_at_call 31; refine (hme1 _).mono ?_; rintro e w1 ⟨rfl, hb⟩; have hS := St.step (by first | exact hS | exact St.drew hS) hb; clear hb; have hcx := hS.cell)
              | (go_at_call 32; refine (hme2 _).mono ?_; rintro e w1 ⟨rfl, hb⟩; have hS := St.step (by first | exact hS | exact St.drew hS) hb; clear hb; have hcx := hS.cell)
              | (go_at_call 33; refine (hcm1 _ (by exact hS.tab)).mono ?_; rintro e w1 ⟨rfl, hb⟩; have hS := St.step (by first | exact hS | exact St.drew hS) hb; clear hb; have hcx := hS.cell)
              | (go_at_call 34; refine (hcm2 _).mono ?_; rintro e w1 ⟨rfl, hb⟩; have hS := St.step (by first | exact hS | exact St.drew hS) hb; clear hb; have hcx := hS.cell)
              | (go_at_call 5; refine (awake_any _ (by exact hS.tab)).mono ?_; rintro e w1 ⟨rfl, hb⟩; have hS := St.step (by first | exact hS | exact St.drew hS) hb; clear hb; have hcx := hS.cell))
      go_wp2_with (first
              | (go_at_call 18; refine (runs_any x hx _ (by exact hS.tab)).mono ?_; rintro e w1 ⟨vr, rfl, hrow, hb⟩; have hP := Lib.hid (pairs_of_row hrow); have hS := St.step (by first | exact hS | exact St.drew hS) hb; clear hb; have hcx := hS.cell; clear hrow)
              | (go_at_call 20; refine (rruns_any x hx _).mono ?_; rintro e w2 ⟨vq, ⟨rfl, hrow⟩, hb⟩; have hP2 := Lib.hid (pairs_of_row hrow); have hP := Lib.hid (by first | exact hP.out.below hb (Nat.le_refl _) | exact hP.out.drew.below hb (Nat.le_refl _)); have hPz := hb.size; have hS := St.step (by first | exact hS | exact St.drew hS) hb; clear hb; have hcx := hS.cell; clear hrow)
              | (go_at_call 19; refine (rsame_any (runsOf x) hR256 _ _ _ _ (Nat.le_refl _) (by first | exact hP.out.more hPz | exact (hP.out.more hPz).drew) (by first | exact hP2.out | exact hP2.out.drew)).mono ?_; rintro e w1 ⟨rfl, hb⟩; have hS := St.step (by first | exact hS | exact St.drew hS) hb; clear hb; have hcx := hS.cell; clear hP hP2 hPz)
              | (go_at_call 21; refine (or_any x y hx hy _).mono ?_; rintro e w1 ⟨rfl, hb⟩; have hS := St.step (by first | exact hS | exact St.drew hS) hb; clear hb; have hcx := hS.cell)
              | (go_at_call 22; refine (ror_any x y hx hy _).mono ?_; rintro e w1 ⟨rfl, hb⟩; have hS := St.step (by first | exact hS | exact St.drew hS) hb; clear hb; have hcx := hS.cell)
              | (go_at_call 23; refine (and_any x y hx hy _).mono ?_; rintro e w1 ⟨rfl, hb⟩; have hS := St.step (by first | exact hS | exact St.drew hS) hb; clear hb; have hcx := hS.cell)
              | (go_at_call 24; refine (rand_any x y hx hy _).mono ?_; rintro e w1 ⟨rfl, hb⟩; have hS := St.step (by first | exact hS | exact St.drew hS) hb; clear hb; have hcx := hS.cell)
              | (go_at_call 25; refine (minus_any x y hx hy _).mono ?_; rintro e w1 ⟨rfl, hb⟩; have hS := St.step (by first | exact hS | exact St.drew hS) hb; clear hb; have hcx := hS.cell)
              | (go_at_call 26; refine (rminus_any x y hx hy _).mono ?_; rintro e w1 ⟨rfl, hb⟩; have hS := St.step (by first | exact hS | exact St.drew hS) hb; clear hb; have hcx := hS.cell)
              | (go_at_call 27; refine (not_any x hx _).mono ?_; rintro e w1 ⟨rfl, hb⟩; have hS := St.step (by first | exact hS | exact St.drew hS) hb; clear hb; have hcx := hS.cell)
              | (go_at_call 28; refine (rnot_any x hx _).mono ?_; rintro e w1 ⟨rfl, hb⟩; have hS := St.step (by first | exact hS | exact St.drew hS) hb; clear hb; have hcx := hS.cell)
              | (go_at_call 29; refine (hsub1 _).mono ?_; rintro e w1 ⟨rfl, hb⟩; have hS := St.step (by first | exact hS | exact St.drew hS) hb; clear hb; have hcx := hS.cell)
              | (go_at_call 30; refine (hsub2 _).mono ?_; rintro e w1 ⟨rfl, hb⟩; have hS := St.step (by first | exact hS | exact St.drew hS) hb; clear hb; have hcx := hS.cell)
              | (go_at_call 31; refine (hme1 _).mono ?_; rintro e w1 ⟨rfl, hb⟩; have hS := St.step (by first | exact hS | exact St.drew hS) hb; clear hb; have hcx := hS.cell)
              | (go_at_call 32; refine (hme2 _).mono ?_; rintro e w1 ⟨rfl, hb⟩; have hS := St.step (by first | exact hS | exact St.drew hS) hb; clear hb; have hcx := hS.cell)
              | (go_at_call 33; refine (hcm1 _ (by exact hS.tab)).mono ?_; rintro e w1 ⟨rfl, hb⟩; have hS := St.step (by first | exact hS | exact St.drew hS) hb; clear hb; have hcx := hS.cell)
              | (go_at_call 34; refine (hcm2 _).mono ?_; rintro e w1 ⟨rfl, hb⟩; have hS := St.step (by first | exact hS | exact St.drew hS) hb; clear hb; have hcx := hS.cell)
              | (go_at_call 5; refine (awake_any _ (by exact hS.tab)).mono ?_; rintro e w1 ⟨rfl, hb⟩; have hS := St.step (by first | exact hS | exact St.drew hS) hb; clear hb; have hcx := hS.cell))
      go_ret
      exact ⟨rfl, hS.below⟩
end Go.Proofs.YtolhignlofonjaaDoor
