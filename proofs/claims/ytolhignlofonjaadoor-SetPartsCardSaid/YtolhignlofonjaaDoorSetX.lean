/- The other functions of package set, and the examples that each statement asks. -/
import Derived.Deep.RegionWith
import Derived.Deep.RegionHeld3
import Derived.Deep.QuietTactic
import Derived.BigQuiet
import Derived.Test.YtolhignlofonjaaDoorSetS
import Derived.Test.YtolhignlofonjaaDoorSetR
namespace Go.Proofs.YtolhignlofonjaaDoor
open Go.RowKit Go.Shelf

theorem bstep {w W W' : World} (h : Below w.heap.size w W) (hb : Below W.heap.size W W') : Below w.heap.size w W' := h.trans (hb.mono h.size)
theorem Tab.step {W W' : World} (h : Tab W) (hb : Below W.heap.size W W') : Tab W' := h.below hb h.lt
theorem list_any (s : S4) (hs : s.ok) (w : World) (hT : Tab w) :
    Calls Tryd.prog 16 #[s.v] w fun e W' => e = .returned (.string ⟨(lstB s).toArray⟩) ∧ Below w.heap.size w W' := callsIn_wide.1 (list_in s hs w hT)
theorem runs_any (s : S4) (hs : s.ok) (w : World) (hT : Tab w) :
    Calls Tryd.prog 18 #[s.v] w fun e W' => ∃ v, e = .returned v ∧ W'.ownsRow w.heap.size 37 2 v (rs (lstB s)).length (runsV (rs (lstB s))) ∧ Below w.heap.size w W' := callsIn_wide.1 (runs_in s hs w hT)

/-- The same four words? -/
def sm (a b c d a' b' c' d' : Int) : Bool := a == a' && (b == b' && (c == c' && d == d'))
@[go_sem] theorem sm_self (a b c d : Int) : sm a b c d a b c d = true := by simp [sm]
set_option maxHeartbeats 1000000 in
@[go_sem] theorem eq4 (a b c d a' b' c' d' : Int) (w : World) : (Op.equalIn 10000 24 (.agg #[.int .u64 a, .int .u64 b, .int .u64 c, .int .u64 d]) (.agg #[.int .u64 a', .int .u64 b', .int .u64 c', .int .u64 d'])).run Tryd.prog w = .ok (sm a b c d a' b' c' d') w := by
  have u3 := Tryd.underlying22
  have a3 := Tryd.isAgg22
  have z3 := Tryd.sizeOf22
  rw [show (10000 : Nat) = 9999 + 1 from rfl, Op.equalIn]
  simp only [Sem.run_bind, run_underlying Tryd.underlying24, Result.andThen_ok]
  simp only [Std.Legacy.Range.forIn_eq_forIn_range', Std.Legacy.Range.size, Nat.sub_zero, Nat.add_sub_cancel, Nat.div_one, List.range'_succ, List.range'_zero, List.forIn_cons, List.forIn_nil]
  go_simp
  by_cases h1 : a = a' <;> by_cases h2 : b = b' <;> by_cases h3 : c = c' <;> by_cases h4 : d = d' <;> simp [sm, h1, h2, h3, h4]

abbrev same4 (s t : S4) : Bool := sm s.a s.b s.c s.d t.a t.b t.c t.d
theorem same4_iff (s t : S4) : same4 s t = true ↔ s = t := by
  unfold same4 sm
  constructor
  · intro h
    simp only [Bool.and_eq_true, beq_iff_eq, Int.natCast_inj] at h
    obtain ⟨h1, h2, h3, h4⟩ := h
    cases s; cases t; simp_all
  · rintro rfl
    simp

set_option maxHeartbeats 1000000 in
theorem subset_any (s t : S4) (hs : s.ok) (ht : t.ok) (w : World) :
    Calls Tryd.prog 29 #[s.v, t.v] w fun e w' => e = .returned (.bool (same4 (s.and t) s)) ∧ Below w.heap.size w w' := by
  go_enter Tryd.func29, Tryd.ntmps29
  go_wp2
  go_region_with (go_at_call 23; refine (and_any s t hs ht _).mono ?_; rintro e w1 ⟨rfl, hb⟩; have hsz := hb.size; obtain ⟨hc, hf⟩ := bcell hb)
  all_goals
    go_wp2
    go_ret
    exact ⟨rfl, ((((Below.refl _ w).alloc (Nat.le_refl _) _).alloc (by simp) _).drew).trans (hb.mono (by simp; omega))⟩
set_option maxHeartbeats 1000000 in
theorem meets_any (s t : S4) (hs : s.ok) (ht : t.ok) (w : World) :
    Calls Tryd.prog 31 #[s.v, t.v] w fun e w' => e = .returned (.bool (!sm (s.and t).a (s.and t).b (s.and t).c (s.and t).d 0 0 0 0)) ∧ Below w.heap.size w w' := by
  go_enter Tryd.func31, Tryd.ntmps31
  go_wp2_with (go_at_call 23; refine (and_any s t hs ht _).mono ?_; rintro e w1 ⟨rfl, hb⟩; have hsz := hb.size; obtain ⟨hc, hf⟩ := bcell hb)
  go_ret
  exact ⟨rfl, (((Below.refl _ w).alloc (Nat.le_refl _) _).alloc (by simp) _).trans (hb.mono (by simp; omega))⟩

theorem lstB_len (s : S4) : (lstB s).length = s.lst.length := by simp [lstB]
/-- The byte of a set of one. -/
def onlyN (s : S4) : Nat × Bool := match s.lst with | [n] => (n, true) | _ => (0, false)
set_option maxHeartbeats 1000000 in
theorem only_no (s : S4) (hs : s.ok) (h : s.lst.length ≠ 1) (w : World) :
    Calls Tryd.prog 6 #[s.v] w fun e w' => e = .returned (.tuple #[.int .u8 0, .bool false]) ∧ Below w.heap.size w w' := by
  have hne : ((s.lst.length : Int) != 1) = true := by rw [bne_iff_ne]; omega
  go_enter Tryd.func6, Tryd.ntmps6
  go_wp2_with (go_at_call 14; refine (len_any s hs _).mono ?_; rintro e w1 ⟨rfl, hb⟩; have hsz := hb.size; obtain ⟨hc, hf⟩ := bcell hb)
  go_ret2
  exact ⟨rfl, ((Below.refl _ w).alloc (Nat.le_refl _) _).trans (hb.mono (by simp))⟩
set_option maxHeartbeats 1000000 in
theorem only_yes (s : S4) (hs : s.ok) (n : Nat) (h : s.lst = [n]) (w : World) (hT : Tab w) :
    Calls Tryd.prog 6 #[s.v] w fun e w' => e = .returned (.tuple #[.int .u8 n, .bool true]) ∧ Below w.heap.size w w' := by
  have hl : s.lst.length = 1 := by rw [h]; rfl
  have hb256 : n < 256 := (S4.mem_lst.1 (by rw [h]; exact List.mem_singleton_self n)).1
  have hbytes : lstB s = [UInt8.ofNat n] := by rw [lstB, h]; rfl
  have HN := Lib.hid (show (UInt8.ofNat n).toNat = n by rw [UInt8.toNat_ofNat']; omega)
  have hT0 := hT.lt
  go_enter Tryd.func6, Tryd.ntmps6
  go_wp2_with fail
  refine (len_any s hs _).mono ?_
  rintro e w1 ⟨rfl, hb⟩
  have hsz := hb.size
  obtain ⟨hc, hf⟩ := bcell hb
  have hB1 : Below w.heap.size w w1 := ((Below.refl _ w).alloc (Nat.le_refl _) _).trans (hb.mono (by simp))
  have hT1 := hT.below hB1 hT0
  rw [hl]
  go_wp2_with fail
  refine (list_any s hs _ hT1).mono ?_
  rintro e w2 ⟨rfl, hb2⟩
  rw [hbytes]
  clear hc hf hsz hb
  go_wp2
  go_ret2
  refine ⟨?_, hB1.trans (hb2.mono hB1.size)⟩
  show Ending.returned (.tuple #[.int .u8 ((UInt8.ofNat n).toNat : Int), .bool true]) = _
  rw [HN.out]

end Go.Proofs.YtolhignlofonjaaDoor
