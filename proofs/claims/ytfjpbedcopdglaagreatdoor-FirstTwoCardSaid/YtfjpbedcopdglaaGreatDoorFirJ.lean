/- The document's own Len, Or, Minus, Subset of sets: for every set. -/
import Derived.Test.YtfjpbedcopdglaaGreatDoorFirK
import Derived.Test.YtfjpbedcopdglaaGreatDoorFirB
namespace Go.Proofs.YtfjpbedcopdglaaGreatDoor
open Go.RowKit Go.Shelf

theorem lstB_size (s : S4) : ByteArray.size ⟨(lstB s).toArray⟩ = s.lst.length := by
  show (lstB s).toArray.size = _
  simp [lstB]

theorem lst_le (s : S4) : s.lst.length ≤ 256 := by
  have := List.length_filter_le s.has (List.range 256)
  rw [List.length_range] at this
  exact this

set_option maxHeartbeats 1000000 in
theorem rlen_any (s : S4) (hs : s.ok) (w : World) :
    Calls Tryz.prog 20 #[s.v] w fun e w' => e = .returned (.int .i64 (s.lst.length : Int)) ∧ Below w.heap.size w w' := by
  have HL := Lib.hid (lstB_len s)
  go_enter Tryz.func20, Tryz.ntmps20
  go_wp2_with fail
  refine (rlist_any s hs _).mono ?_
  rintro e w1 ⟨rfl, hb⟩
  go_wp2
  go_ret
  refine ⟨?_, ((Below.refl _ w).alloc (Nat.le_refl _) _).trans (hb.mono (by simp))⟩
  show Ending.returned (Value.int .i64 ((lstB s).length : Int)) = _
  rw [HL.out]

theorem ror_eq {s t : S4} (hs : s.ok) (ht : t.ok) : fl (fun n => s.has n || t.has n) 256 = s.or t := fl_eq _ (S4.ok_or hs ht) fun n _ => S4.has_or s t n

theorem rminus_eq {s t : S4} (hs : s.ok) (ht : t.ok) : fl (fun n => s.has n && !t.has n) 256 = s.minus t := fl_eq _ (S4.ok_minus hs ht) fun n _ => S4.has_minus s ht n

theorem ror_any (s t : S4) (hs : s.ok) (ht : t.ok) (w : World) :
    Calls Tryz.prog 13 #[s.v, t.v] w fun e w' => e = .returned (s.or t).v ∧ Below w.heap.size w w' := by rw [← ror_eq hs ht]; exact ror_fl s t hs ht w

theorem rminus_any (s t : S4) (hs : s.ok) (ht : t.ok) (w : World) :
    Calls Tryz.prog 21 #[s.v, t.v] w fun e w' => e = .returned (s.minus t).v ∧ Below w.heap.size w w' := by rw [← rminus_eq hs ht]; exact rminus_fl s t hs ht w

set_option maxHeartbeats 1000000 in
theorem rsubset_any (s t : S4) (hs : s.ok) (ht : t.ok) (w : World) :
    Calls Tryz.prog 15 #[s.v, t.v] w fun e w' => e = .returned (.bool (((s.minus t).lst.length : Int) == 0)) ∧ Below w.heap.size w w' := by
  go_enter Tryz.func15, Tryz.ntmps15
  go_wp2_with (first
    | (go_at_call 21; refine (rminus_any s t hs ht _).mono ?_; rintro e w1 ⟨rfl, hb⟩)
    | (go_at_call 20; refine (rlen_any _ (S4.ok_minus hs ht) _).mono ?_; rintro e w2 ⟨rfl, hb2⟩))
  go_ret
  refine ⟨rfl, bstep (bstep ?_ hb) hb2⟩
  exact ((Below.refl _ w).alloc (Nat.le_refl _) _).alloc (by simp) _

theorem rsub_eq {s t : S4} (hs : s.ok) (ht : t.ok) : (((s.minus t).lst.length : Int) == 0) = same4 (s.and t) s := by
  rw [Bool.eq_iff_iff, beq_iff_eq, same4_iff]
  constructor
  · intro h
    have hl : (s.minus t).lst = [] := List.length_eq_zero_iff.1 (by omega)
    refine S4.ext (S4.ok_and hs ht) hs fun n hn => ?_
    rw [S4.has_and]
    have hm : ¬ (s.minus t).has n = true := fun h' => by
      have := S4.mem_lst.2 ⟨hn, h'⟩
      rw [hl] at this
      cases this
    rw [S4.has_minus s ht n] at hm
    revert hm
    cases s.has n <;> cases t.has n <;> simp
  · intro h
    have hl : (s.minus t).lst = [] := List.eq_nil_iff_forall_not_mem.2 fun n hn => by
      obtain ⟨h1, h2⟩ := S4.mem_lst.1 hn
      rw [S4.has_minus s ht n] at h2
      rw [← h, S4.has_and] at h2
      revert h2
      cases s.has n <;> cases t.has n <;> simp
    rw [hl]; rfl
theorem rsub_any (s t : S4) (hs : s.ok) (ht : t.ok) (w : World) :
    Calls Tryz.prog 15 #[s.v, t.v] w fun e w' => e = .returned (.bool (same4 (s.and t) s)) ∧ Below w.heap.size w w' := by rw [← rsub_eq hs ht]; exact rsubset_any s t hs ht w
end Go.Proofs.YtfjpbedcopdglaaGreatDoor
