/- The laws of sets, as plain mathematics, and the set of a text's bytes. -/
import Derived.Test.YtolhignlofonjaaDoorSetT
namespace Go.Proofs.YtolhignlofonjaaDoor
open Go.RowKit Go.Shelf

/-- The bytes of a text, as numbers. -/
def nums (s : ByteArray) : List Nat := s.data.toList.map UInt8.toNat
theorem nums_lt (s : ByteArray) : ∀ n ∈ nums s, n < 256 := by
  intro n hn
  simp only [nums, List.mem_map] at hn
  obtain ⟨b, _, rfl⟩ := hn
  exact b.toNat_lt
theorem nums_append (s t : ByteArray) : nums (s ++ t) = nums s ++ nums t := by simp [nums]
/-- The set of a text's bytes. -/
def bset (s : ByteArray) : S4 := S4.nil.ofL (nums s)
theorem ok_bset (s : ByteArray) : (bset s).ok := S4.ok_ofL _ S4.ok_nil
theorem has_bset (s : ByteArray) {n : Nat} (hn : n < 256) : (bset s).has n = decide (n ∈ nums s) := by
  rw [bset, S4.has_ofL _ _ (nums_lt s) n hn, S4.has_nil]; simp
theorem of_bset (s : ByteArray) (hs : s.size ≤ maxLen) (w : World) :
    Calls Tryd.prog 8 #[.string s] w fun e w' => e = .returned (bset s).v ∧ Below w.heap.size w w' := of_any s hs w
theorem bset_twice (s : ByteArray) : bset (s ++ s) = bset s := by
  refine S4.ext (ok_bset _) (ok_bset _) fun n hn => ?_
  rw [has_bset _ hn, has_bset _ hn, nums_append]
  simp
theorem bset_list {s : S4} (hs : s.ok) : bset ⟨(lstB s).toArray⟩ = s := by
  refine S4.ext (ok_bset _) hs fun n hn => ?_
  rw [has_bset _ hn]
  have e : nums ⟨(lstB s).toArray⟩ = s.lst := by
    simp only [nums, lstB, List.map_map]
    conv => rhs; rw [← List.map_id s.lst]
    refine List.map_congr_left fun n hn => ?_
    have := (S4.mem_lst.1 hn).1
    simp only [Function.comp, UInt8.toNat_ofNat', id]
    omega
  rw [e]
  cases h : s.has n <;> simp [S4.mem_lst, hn, h]
theorem not_not {s : S4} (hs : s.ok) : s.not.not = s := by
  refine S4.ext (S4.ok_not (S4.ok_not hs)) hs fun n _ => ?_
  rw [S4.has_not (S4.ok_not hs), S4.has_not hs]; simp
theorem not_or {s t : S4} (hs : s.ok) (ht : t.ok) : (s.or t).not = s.not.and t.not := by
  refine S4.ext (S4.ok_not (S4.ok_or hs ht)) (S4.ok_and (S4.ok_not hs) (S4.ok_not ht)) fun n _ => ?_
  rw [S4.has_not (S4.ok_or hs ht), S4.has_and, S4.has_not hs, S4.has_not ht, S4.has_or]; simp
theorem minus_eq {s t : S4} (hs : s.ok) (ht : t.ok) : s.minus t = s.and t.not := by
  refine S4.ext (S4.ok_minus hs ht) (S4.ok_and hs (S4.ok_not ht)) fun n _ => ?_
  rw [S4.has_minus s ht, S4.has_and, S4.has_not ht]
theorem lst_same {s t : S4} (hs : s.ok) (ht : t.ok) : (lstB s == lstB t) = same4 s t := by
  rw [Bool.eq_iff_iff, beq_iff_eq, same4_iff]
  exact ⟨lstB_inj hs ht, fun h => by rw [h]⟩
/-- Is it among the first k? -/
def seen (s : ByteArray) (b k : Nat) : Bool := decide (b ∈ (nums s).take k)
theorem seen_zero (s : ByteArray) (b : Nat) : seen s b 0 = false := by simp [seen]
theorem seen_all (s : ByteArray) {b : Nat} (hb : b < 256) : (bset s).has b = seen s b s.size := by
  rw [has_bset s hb, seen, List.take_of_length_le (by simp [nums])]
theorem seen_succ (s : ByteArray) (b k : Nat) (hk : k < s.size) : seen s b (k + 1) = (seen s b k || decide (s[k].toNat = b)) := by
  unfold seen
  have h := take_snocU s k hk
  unfold nums
  rw [h]
  rw [Bool.eq_iff_iff]
  simp only [Bool.or_eq_true, decide_eq_true_eq, List.mem_append, List.mem_singleton]
  constructor
  · rintro (h | h)
    · exact .inl h
    · exact .inr h.symm
  · rintro (h | h)
    · exact .inl h
    · exact .inr h.symm
end Go.Proofs.YtolhignlofonjaaDoor
