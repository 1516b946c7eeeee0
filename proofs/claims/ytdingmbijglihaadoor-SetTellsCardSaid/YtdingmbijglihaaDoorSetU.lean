/- The walk of the statement that the sets are the document's: for every text, range and set it answers yes, and nothing that was there has changed. -/
import Derived.Test.YtdingmbijglihaaDoorSetV
import Derived.Test.YtdingmbijglihaaDoorSetB
namespace Go.Proofs.YtdingmbijglihaaDoor
open Go.RowKit Go.Shelf

theorem rof_bset (s : ByteArray) (hs : s.size ≤ maxLen) (w : World) :
    Calls Tryd.prog 23 #[.string s] w fun e w' => e = .returned (bset s).v ∧ Below w.heap.size w w' := rof_any s hs w
/-- The set of a range. -/
def rset (a b : Nat) : S4 := S4.nil.ofL (List.range' a (b + 1 - a))
theorem range_rset (a b : Nat) (ha : a < 256) (hb : b < 256) (w : World) :
    Calls Tryd.prog 10 #[.int .u8 a, .int .u8 b] w fun e w' => e = .returned (rset a b).v ∧ Below w.heap.size w w' := range_any a b ha hb w
theorem rrange_rset (a b : Nat) (ha : a < 256) (hb : b < 256) (w : World) :
    Calls Tryd.prog 24 #[.int .u8 a, .int .u8 b] w fun e w' => e = .returned (rset a b).v ∧ Below w.heap.size w w' := rrange_any a b ha hb w

/-- The byte of a set of one, and whether it is one: the program's answer and the document's. -/
theorem only_both (x : S4) (hx : x.ok) : ∃ (n : Nat) (t : Bool),
    (∀ w, Tab w → Calls Tryd.prog 11 #[x.v] w fun e w' => e = .returned (.tuple #[.int .u8 n, .bool t]) ∧ Below w.heap.size w w') ∧
    (∀ w, Calls Tryd.prog 22 #[x.v] w fun e w' => e = .returned (.tuple #[.int .u8 n, .bool t]) ∧ Below w.heap.size w w') := by
  by_cases h : x.lst.length = 1
  · obtain ⟨n, hn⟩ := List.length_eq_one_iff.1 h
    exact ⟨n, true, fun w hT => only_yes x hx n hn w hT, fun w => ronly_yes x hx n hn w⟩
  · exact ⟨0, false, fun w _ => only_no x hx h w, fun w => ronly_no x hx h w⟩

set_option maxRecDepth 100000 in
set_option maxHeartbeats 8000000 in
theorem tells_walk (s : ByteArray) (hs0 : s.size ≤ maxLen) (a b : Nat) (ha : a < 256) (hb256 : b < 256) (x : S4) (hx : x.ok) (w : World) (hT : Tab w) :
    Calls Tryd.prog 4 #[.string s, .int .u8 a, .int .u8 b, x.v] w fun e w' => e = .returned (.bool true) ∧ Below w.heap.size w w' := by
  obtain ⟨n, t, ho1, ho2⟩ := only_both x hx
  by_cases hs : 5000 < s.size
  · have hlong : (5000 : Int) < (s.size : Int) := by omega
    go_enter Tryd.func4, Tryd.ntmps4
    go_wp2_with fail
    have hB0 : Below w.heap.size w (w.alloc (.cells #[.int .u64 x.a, .int .u64 x.b, .int .u64 x.c, .int .u64 x.d] 26)) := ((Below.refl _ w).alloc (Nat.le_refl _) _)
    refine (awake_any _ (hT.step hB0)).mono ?_
    rintro e w1 ⟨rfl, hb⟩
    go_wp2
    go_ret
    exact ⟨rfl, bstep hB0 hb⟩
  · have hshort : ¬ (5000 : Int) < (s.size : Int) := by omega
    have hsm : s.size ≤ maxLen := hs0
    go_enter Tryd.func4, Tryd.ntmps4
    go_wp2_with fail
    have hB0 : Below w.heap.size w (w.alloc (.cells #[.int .u64 x.a, .int .u64 x.b, .int .u64 x.c, .int .u64 x.d] 26)) := ((Below.refl _ w).alloc (Nat.le_refl _) _)
    have hS0 := St.start (hT.step hB0) hB0
    have hbx := Box4.new w x
    obtain ⟨W0, hW0⟩ : ∃ W, W = (w.alloc (.cells #[.int .u64 x.a, .int .u64 x.b, .int .u64 x.c, .int .u64 x.d] 26)) := ⟨_, rfl⟩
    rw [← hW0] at hbx hS0 ⊢
    clear hW0 hB0
    have hL := hbx.lt
    obtain ⟨N, hN⟩ : ∃ N, W0.heap.size = N := ⟨_, rfl⟩
    rw [hN] at hS0 hL
    clear hN
    have hS := hS0
    clear hS0
    obtain ⟨x0, x1, x2, x3⟩ := hbx.cells
    go_wp2_with (first
      | (go_at_call 11; refine (ho1 _ (by exact hS.tab)).mono ?_; rintro e w1 ⟨rfl, hb⟩; have hS := St.step (by first | exact hS | exact St.drew hS) hb; clear hb; have hcx := hS.cell)
      | (go_at_call 22; refine (ho2 _).mono ?_; rintro e w1 ⟨rfl, hb⟩; have hS := St.step (by first | exact hS | exact St.drew hS) hb; clear hb; have hcx := hS.cell)
      | (go_at_call 12; refine (of_bset _ hsm _).mono ?_; rintro e w1 ⟨rfl, hb⟩; have hS := St.step (by first | exact hS | exact St.drew hS) hb; clear hb; have hcx := hS.cell)
      | (go_at_call 23; refine (rof_bset _ hsm _).mono ?_; rintro e w1 ⟨rfl, hb⟩; have hS := St.step (by first | exact hS | exact St.drew hS) hb; clear hb; have hcx := hS.cell)
      | (go_at_call 10; refine (range_rset a b ha hb256 _).mono ?_; rintro e w1 ⟨rfl, hb⟩; have hS := St.step (by first | exact hS | exact St.drew hS) hb; clear hb; have hcx := hS.cell)
      | (go_at_call 24; refine (rrange_rset a b ha hb256 _).mono ?_; rintro e w1 ⟨rfl, hb⟩; have hS := St.step (by first | exact hS | exact St.drew hS) hb; clear hb; have hcx := hS.cell)
      | (go_at_call 13; refine (has_any x hx a ha _).mono ?_; rintro e w1 ⟨rfl, hb⟩; have hS := St.step (by first | exact hS | exact St.drew hS) hb; clear hb; have hcx := hS.cell)
      | (go_at_call 25; refine (rhas_any x hx a ha _).mono ?_; rintro e w1 ⟨rfl, hb⟩; have hS := St.step (by first | exact hS | exact St.drew hS) hb; clear hb; have hcx := hS.cell)
      | (go_at_call 14; refine (len_any x hx _).mono ?_; rintro e w1 ⟨rfl, hb⟩; have hS := St.step (by first | exact hS | exact St.drew hS) hb; clear hb; have hcx := hS.cell)
      | (go_at_call 26; refine (rlen_any x hx _).mono ?_; rintro e w1 ⟨rfl, hb⟩; have hS := St.step (by first | exact hS | exact St.drew hS) hb; clear hb; have hcx := hS.cell)
      | (go_at_call 18; refine (list_any x hx _ (by exact hS.tab)).mono ?_; rintro e w1 ⟨rfl, hb⟩; have hS := St.step (by first | exact hS | exact St.drew hS) hb; clear hb; have hcx := hS.cell)
      | (go_at_call 27; refine (rlist_any x hx _).mono ?_; rintro e w1 ⟨rfl, hb⟩; have hS := St.step (by first | exact hS | exact St.drew hS) hb; clear hb; have hcx := hS.cell)
      | (go_at_call 9; refine (awake_any _ (by exact hS.tab)).mono ?_; rintro e w1 ⟨rfl, hb⟩; have hS := St.step (by first | exact hS | exact St.drew hS) hb; clear hb; have hcx := hS.cell))
    go_region_held3 (fun w' => w'.cell? ⟨w.heap.size, 0, none⟩ = some (.int .u64 x.a) ∧ w'.cell? ⟨w.heap.size, 1, none⟩ = some (.int .u64 x.b) ∧ w'.cell? ⟨w.heap.size, 2, none⟩ = some (.int .u64 x.c) ∧ w'.cell? ⟨w.heap.size, 3, none⟩ = some (.int .u64 x.d))
      (first
        | go_keep
        | (go_split_ands
           refine ⟨?_, ?_, ?_, ?_⟩
           all_goals (rw [hcx _ _ (by omega)]; assumption)))
      (first
      | (go_at_call 11; refine (ho1 _ (by exact hS.tab)).mono ?_; rintro e w1 ⟨rfl, hb⟩; have hS := St.step (by first | exact hS | exact St.drew hS) hb; clear hb; have hcx := hS.cell)
      | (go_at_call 22; refine (ho2 _).mono ?_; rintro e w1 ⟨rfl, hb⟩; have hS := St.step (by first | exact hS | exact St.drew hS) hb; clear hb; have hcx := hS.cell)
      | (go_at_call 12; refine (of_bset _ hsm _).mono ?_; rintro e w1 ⟨rfl, hb⟩; have hS := St.step (by first | exact hS | exact St.drew hS) hb; clear hb; have hcx := hS.cell)
      | (go_at_call 23; refine (rof_bset _ hsm _).mono ?_; rintro e w1 ⟨rfl, hb⟩; have hS := St.step (by first | exact hS | exact St.drew hS) hb; clear hb; have hcx := hS.cell)
      | (go_at_call 10; refine (range_rset a b ha hb256 _).mono ?_; rintro e w1 ⟨rfl, hb⟩; have hS := St.step (by first | exact hS | exact St.drew hS) hb; clear hb; have hcx := hS.cell)
      | (go_at_call 24; refine (rrange_rset a b ha hb256 _).mono ?_; rintro e w1 ⟨rfl, hb⟩; have hS := St.step (by first | exact hS | exact St.drew hS) hb; clear hb; have hcx := hS.cell)
      | (go_at_call 13; refine (has_any x hx a ha _).mono ?_; rintro e w1 ⟨rfl, hb⟩; have hS := St.step (by first | exact hS | exact St.drew hS) hb; clear hb; have hcx := hS.cell)
      | (go_at_call 25; refine (rhas_any x hx a ha _).mono ?_; rintro e w1 ⟨rfl, hb⟩; have hS := St.step (by first | exact hS | exact St.drew hS) hb; clear hb; have hcx := hS.cell)
      | (go_at_call 14; refine (len_any x hx _).mono ?_; rintro e w1 ⟨rfl, hb⟩; have hS := St.step (by first | exact hS | exact St.drew hS) hb; clear hb; have hcx := hS.cell)
      | (go_at_call 26; refine (rlen_any x hx _).mono ?_; rintro e w1 ⟨rfl, hb⟩; have hS := St.step (by first | exact hS | exact St.drew hS) hb; clear hb; have hcx := hS.cell)
      | (go_at_call 18; refine (list_any x hx _ (by exact hS.tab)).mono ?_; rintro e w1 ⟨rfl, hb⟩; have hS := St.step (by first | exact hS | exact St.drew hS) hb; clear hb; have hcx := hS.cell)
      | (go_at_call 27; refine (rlist_any x hx _).mono ?_; rintro e w1 ⟨rfl, hb⟩; have hS := St.step (by first | exact hS | exact St.drew hS) hb; clear hb; have hcx := hS.cell)
      | (go_at_call 9; refine (awake_any _ (by exact hS.tab)).mono ?_; rintro e w1 ⟨rfl, hb⟩; have hS := St.step (by first | exact hS | exact St.drew hS) hb; clear hb; have hcx := hS.cell))
    go_wp2_with (first
      | (go_at_call 11; refine (ho1 _ (by exact hS.tab)).mono ?_; rintro e w1 ⟨rfl, hb⟩; have hS := St.step (by first | exact hS | exact St.drew hS) hb; clear hb; have hcx := hS.cell)
      | (go_at_call 22; refine (ho2 _).mono ?_; rintro e w1 ⟨rfl, hb⟩; have hS := St.step (by first | exact hS | exact St.drew hS) hb; clear hb; have hcx := hS.cell)
      | (go_at_call 12; refine (of_bset _ hsm _).mono ?_; rintro e w1 ⟨rfl, hb⟩; have hS := St.step (by first | exact hS | exact St.drew hS) hb; clear hb; have hcx := hS.cell)
      | (go_at_call 23; refine (rof_bset _ hsm _).mono ?_; rintro e w1 ⟨rfl, hb⟩; have hS := St.step (by first | exact hS | exact St.drew hS) hb; clear hb; have hcx := hS.cell)
      | (go_at_call 10; refine (range_rset a b ha hb256 _).mono ?_; rintro e w1 ⟨rfl, hb⟩; have hS := St.step (by first | exact hS | exact St.drew hS) hb; clear hb; have hcx := hS.cell)
      | (go_at_call 24; refine (rrange_rset a b ha hb256 _).mono ?_; rintro e w1 ⟨rfl, hb⟩; have hS := St.step (by first | exact hS | exact St.drew hS) hb; clear hb; have hcx := hS.cell)
      | (go_at_call 13; refine (has_any x hx a ha _).mono ?_; rintro e w1 ⟨rfl, hb⟩; have hS := St.step (by first | exact hS | exact St.drew hS) hb; clear hb; have hcx := hS.cell)
      | (go_at_call 25; refine (rhas_any x hx a ha _).mono ?_; rintro e w1 ⟨rfl, hb⟩; have hS := St.step (by first | exact hS | exact St.drew hS) hb; clear hb; have hcx := hS.cell)
      | (go_at_call 14; refine (len_any x hx _).mono ?_; rintro e w1 ⟨rfl, hb⟩; have hS := St.step (by first | exact hS | exact St.drew hS) hb; clear hb; have hcx := hS.cell)
      | (go_at_call 26; refine (rlen_any x hx _).mono ?_; rintro e w1 ⟨rfl, hb⟩; have hS := St.step (by first | exact hS | exact St.drew hS) hb; clear hb; have hcx := hS.cell)
      | (go_at_call 18; refine (list_any x hx _ (by exact hS.tab)).mono ?_; rintro e w1 ⟨rfl, hb⟩; have hS := St.step (by first | exact hS | exact St.drew hS) hb; clear hb; have hcx := hS.cell)
      | (go_at_call 27; refine (rlist_any x hx _).mono ?_; rintro e w1 ⟨rfl, hb⟩; have hS := St.step (by first | exact hS | exact St.drew hS) hb; clear hb; have hcx := hS.cell)
      | (go_at_call 9; refine (awake_any _ (by exact hS.tab)).mono ?_; rintro e w1 ⟨rfl, hb⟩; have hS := St.step (by first | exact hS | exact St.drew hS) hb; clear hb; have hcx := hS.cell))
    go_ret
    exact ⟨rfl, hS.below⟩
end Go.Proofs.YtdingmbijglihaaDoor
