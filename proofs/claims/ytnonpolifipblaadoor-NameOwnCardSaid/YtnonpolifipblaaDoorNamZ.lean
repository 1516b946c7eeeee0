/- The document's own Show: for every number. -/
import Derived.Test.YtnonpolifipblaaDoorNamB
import Derived.Test.YtnonpolifipblaaDoorNamV
namespace Go.Proofs.YtnonpolifipblaaDoor
open Go.RowKit Go.Shelf

theorem conv_one (wr : World) (d : Nat) (hd : d < 10) (z : Int) (hz : z = 48 + (d : Int)) :
    (convert 38 9 (.slice (some ⟨wr.heap.size, 0, none⟩) 1 1)).run Tryd.prog (wr.alloc (.cells #[.int .u8 z] 5)) = .ok (.string ⟨[UInt8.ofNat (48 + d)].toArray⟩) (wr.alloc (.cells #[.int .u8 z] 5)) := by
  subst hz
  refine run_convert_bytes_back _ _ _ 5 _ 1 [UInt8.ofNat (48 + d)] Tryd.underlying38 Tryd.underlying5 Tryd.underlying9 fun j hj => ?_
  have : j = 0 := by simpa using hj
  subst this
  simp only [List.getElem_cons_zero, ofNat_toNat hd]
  show (wr.alloc _).cell? ⟨wr.heap.size, 0 + 0, none⟩ = _
  rw [World.cell?_alloc_mark]
  simp

theorem neg_neg64 {U : Nat} (h0 : 1 ≤ U) (h1 : U ≤ 9223372036854775808) : IntKind.u64.wrap (-IntKind.u64.wrap (-(U : Int))) = U := by
  simp only [IntKind.wrap, IntKind.bits, IntKind.signed]
  simp
  omega

theorem cons_one (d : Nat) (acc : List UInt8) : Value.string (ByteArray.mk #[48 + UInt8.ofNat d] ++ ByteArray.mk acc.toArray) = .string ⟨(UInt8.ofNat (48 + d) :: acc).toArray⟩ := by
  congr 1
  apply bytes_eq
  simp [ByteArray.data_append]

set_option maxHeartbeats 1000000 in
theorem rshow_pos (n : Int) (h0 : 0 ≤ n) (h1 : n ≤ 9223372036854775807) (w : World) :
    Calls Tryd.prog 19 #[.int .i64 n] w fun e w' => e = .returned (.string (shB n)) ∧ Below w.heap.size w w' := by
  obtain ⟨U, rfl⟩ := Int.eq_ofNat_of_zero_le h0
  go_enter Tryd.func19, Tryd.ntmps19
  go_wp2
  go_loopw [3, 5] (fun u s wr => ∃ (v : Nat) (acc : List UInt8), v ≤ U ∧ u = .int .u64 v ∧ s = .string ⟨acc.toArray⟩ ∧ Lib.decDigits v ++ acc = Lib.decDigits U ∧ Below w.heap.size w wr) (fun u _ _ => (intOf u).toNat)
  case atStart => exact ⟨U, [], Nat.le_refl _, rfl, rfl, by simp, Below.refl _ _⟩
  case round =>
    obtain ⟨v, acc, hv, rfl, rfl, hd, hB⟩ := hrel
    have hD := Lib.hid hd
    have hacc : acc.length ≤ 4611686018427387906 := by
      have h2 := congrArg List.length hd
      rw [List.length_append] at h2
      have h3 := dec_short U
      omega
    clear hd
    by_cases h9 : 9 < v
    · have hconv := conv_one wr (v % 10) (by omega) (48 + (v : Int) % 10) (by omega)
      go_wp2
      exact ⟨⟨v / 10, UInt8.ofNat (48 + v % 10) :: acc, by omega, by go_num, cons_one _ _, by have := hD.out; rw [dec_more (by omega), List.append_assoc] at this; exact this, hB.alloc hB.size _⟩, by simp [intOf]; omega⟩
    · have h9 : v ≤ 9 := by omega
      have hconv := conv_one wr v (by omega) (48 + (v : Int)) (by omega)
      go_wp2
      go_ret
      refine ⟨ret_str ?_, hB.alloc hB.size _⟩
      have hd := hD.out
      rw [dec_one (by omega)] at hd
      apply bytes_eq
      rw [shB_list, show Lib.itoa (U : Int) = Lib.decDigits U from by unfold Lib.itoa; rw [if_neg (by omega)]; rfl, ← hd]
      simp [ByteArray.data_append]

set_option maxHeartbeats 1000000 in
theorem rshow_neg (U : Nat) (h0 : 1 ≤ U) (h1 : U ≤ 9223372036854775808) (w : World) :
    Calls Tryd.prog 19 #[.int .i64 (-(U : Int))] w fun e w' => e = .returned (.string (shB (-(U : Int)))) ∧ Below w.heap.size w w' := by
  go_enter Tryd.func19, Tryd.ntmps19
  go_wp2
  go_loopw [3, 5] (fun u s wr => ∃ (v : Nat) (acc : List UInt8), v ≤ U ∧ u = .int .u64 v ∧ s = .string ⟨acc.toArray⟩ ∧ Lib.decDigits v ++ acc = Lib.decDigits U ∧ Below w.heap.size w wr) (fun u _ _ => (intOf u).toNat)
  case atStart => exact ⟨U, [], Nat.le_refl _, congrArg (Value.int .u64) (neg_neg64 h0 h1), rfl, by simp, Below.refl _ _⟩
  case round =>
    obtain ⟨v, acc, hv, rfl, rfl, hd, hB⟩ := hrel
    have hD := Lib.hid hd
    have hacc : acc.length ≤ 4611686018427387906 := by
      have h2 := congrArg List.length hd
      rw [List.length_append] at h2
      have h3 := dec_short U
      omega
    clear hd
    by_cases h9 : 9 < v
    · have hconv := conv_one wr (v % 10) (by omega) (48 + (v : Int) % 10) (by omega)
      go_wp2
      exact ⟨⟨v / 10, UInt8.ofNat (48 + v % 10) :: acc, by omega, by go_num, cons_one _ _, by have := hD.out; rw [dec_more (by omega), List.append_assoc] at this; exact this, hB.alloc hB.size _⟩, by simp [intOf]; omega⟩
    · have h9 : v ≤ 9 := by omega
      have hconv := conv_one wr v (by omega) (48 + (v : Int)) (by omega)
      go_wp2
      go_ret
      refine ⟨ret_str ?_, hB.alloc hB.size _⟩
      have hd := hD.out
      rw [dec_one (by omega)] at hd
      apply bytes_eq
      rw [shB_list, show Lib.itoa (-(U : Int)) = 45 :: Lib.decDigits U from by unfold Lib.itoa; rw [if_pos (by omega)]; simp, ← hd]
      simp [ByteArray.data_append]
end Go.Proofs.YtnonpolifipblaaDoor
