/- Literal: for every text. -/
import Derived.Test.YtjaklcmadkpmdaaDoorQuoB
import Derived.Test.YtjaklcmadkpmdaaDoorQuoS
import Derived.Test.YtjaklcmadkpmdaaDoorSetW
import Derived.Shelf.Abstract
import Derived.IntWalk
namespace Go.Proofs.YtjaklcmadkpmdaaDoor
open Go Go.RowKit Go.Shelf

/-- The sign of a byte. -/
def sg (cls : Bool) (b : UInt8) : List UInt8 := (sgnB cls b.toNat).data.toList
theorem sgn_len (cls : Bool) (b : Nat) : (sgn cls b).length ≤ 4 := by
  unfold sgn
  split
  · simp
  split
  · simp
  split
  · simp
  split
  · simp
  split
  · simp
  · simp
theorem sg_len (cls : Bool) (b : UInt8) : (sg cls b).length ≤ 4 := by
  have h := sgn_len cls b.toNat
  unfold sg sgnB CE.bytesOf
  simpa using h
theorem sgnB_size (cls : Bool) (b : UInt8) : (sgnB cls b.toNat).size ≤ 4 := sg_len cls b

theorem sign_lit {W0 W : World} (h : Inv W0) (hb : Below W0.heap.size W0 W) (b : UInt8) :
    Calls Tryd.prog 24 #[.int .u8 b.toNat, .string ⟨#[92, 34]⟩] W fun e W' => e = .returned (.string (sgnB false b.toNat)) ∧ Below W.heap.size W W' := sign_any false h hb b.toNat (UInt8.toNat_lt _)
theorem sign_cls {W0 W : World} (h : Inv W0) (hb : Below W0.heap.size W0 W) (b : UInt8) :
    Calls Tryd.prog 24 #[.int .u8 b.toNat, .string ⟨#[92, 93, 45, 94]⟩] W fun e W' => e = .returned (.string (sgnB true b.toNat)) ∧ Below W.heap.size W W' := sign_any true h hb b.toNat (UInt8.toNat_lt _)

/-- What is written of a text's first bytes. -/
def litP (s : ByteArray) (k : Nat) : List UInt8 := [34] ++ (s.data.toList.take k).flatMap (sg false)
theorem litP_succ (s : ByteArray) (k : Nat) (h : k < s.size) : litP s (k + 1) = litP s k ++ sg false s[k] := by
  unfold litP
  have e : s.data.toList.take (k + 1) = s.data.toList.take k ++ [s[k]] := by
    rw [List.take_succ_eq_append_getElem (by simpa using h)]; rfl
  rw [e, List.flatMap_append]
  simp
theorem litP_len (s : ByteArray) : ∀ k, k ≤ s.size → (litP s k).length ≤ 1 + 4 * k
  | 0, _ => by simp [litP]
  | k + 1, h => by
    rw [litP_succ s k h, List.length_append]
    have := litP_len s k (by omega)
    have := sg_len false s[k]
    omega
/-- The literal of a text. -/
def litL (s : ByteArray) : List UInt8 := litP s s.size ++ [34]

set_option maxRecDepth 100000 in
set_option maxHeartbeats 4000000 in
theorem literal_any {W0 w : World} (hI : Inv W0) (hb0 : Below W0.heap.size W0 w) (s : ByteArray) (hs : s.size ≤ 5000) :
    Calls Tryd.prog 9 #[.string s] w fun e w' => e = .returned (.string ⟨(litL s).toArray⟩) ∧ Below w.heap.size w w' := by
  have HI := Lib.hid hI
  have HB0 := Lib.hid hb0
  have hnew := Bld.new w
  have hN : Below w.heap.size w (w.alloc (.cells #[.pointer none, .slice none 0 0] 47)) := (Below.refl _ w).alloc (Nat.le_refl _) _
  clear hI hb0
  go_enter Tryd.func9, Tryd.ntmps9
  go_wp2_with fail
  refine (wbyte_any _ _ _ 34 _ rfl _ hnew (by simp)).mono ?_
  rintro e w1 ⟨rfl, hB1, hb1, _⟩
  have hN1 := hN.trans hb1
  clear hN hnew hb1
  have hlp := Lib.hid (litP_succ s)
  have hll := Lib.hid (litP_len s)
  go_wp2
  go_loopw [4] (fun i wr => ∃ k : Nat, k ≤ s.size ∧ i = .int .i64 k ∧ Bld w.heap.size w.heap.size (litP s k) wr ∧ Below w.heap.size w wr)
    (fun i _ => s.size - (intOf i).toNat)
  case atStart => exact ⟨0, Nat.zero_le _, rfl, hB1, hN1⟩
  case round =>
    clear hB1 hN1
    obtain ⟨k, hk, rfl, hB, hN⟩ := hrel
    have hlen := hll.out k hk
    by_cases hlt : k < s.size
    · have hsz := sgnB_size false s[k]
      go_wp2_with (first
        | (go_at_call 24; refine (sign_lit HI.out (bstep HB0.out hN) _).mono ?_; rintro e w2 ⟨rfl, hb2⟩; have hB2 := hB.below hb2; have hN2 := bstep hN hb2)
        | (go_at_call 23; refine (wstring_any _ _ _ _ _ hB2 (by omega)).mono ?_; rintro e w3 ⟨rfl, hB3, hb3, _⟩; have hN3 := hN2.trans hb3))
      go_roundw
      case rel => exact ⟨k + 1, by omega, by go_num, by rw [hlp.out k hlt]; exact hB3, hN3⟩
      case measure => simp [intOf]; omega
    · obtain rfl : k = s.size := by omega
      go_wp2_with (first
        | (go_at_call 22; refine (wbyte_any _ _ _ 34 _ rfl _ hB (by omega)).mono ?_; rintro e w2 ⟨rfl, hB2, hb2, _⟩; have hN2 := hN.trans hb2)
        | (go_at_call 25; refine (bstring_any _ _ _ _ hB2).mono ?_; rintro e w3 ⟨rfl, hb3⟩; have hN3 := hN2.trans hb3))
      go_ret
      exact ⟨rfl, hN3⟩
end Go.Proofs.YtjaklcmadkpmdaaDoor
