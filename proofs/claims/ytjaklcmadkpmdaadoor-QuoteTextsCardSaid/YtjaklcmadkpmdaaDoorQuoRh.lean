/- The document's Unliteral and Literal, told whole. -/
import Derived.Test.YtjaklcmadkpmdaaDoorQuoRf
import Derived.Test.YtjaklcmadkpmdaaDoorQuoT
section
namespace Go.Proofs.YtjaklcmadkpmdaaDoor
open Go Go.RowKit Go.Shelf
set_option linter.unusedSimpArgs false
set_option linter.unusedVariables false

theorem runliteral_at {W0 w : World} (hI : Inv W0) (hb0 : Below W0.heap.size W0 w) (t : ByteArray) (hs : t.size ≤ 20000) :
    Calls Tryd.prog 11 #[.string t] w fun e w' => e = .returned (unlV (unl t 0 (t.size + 1))) ∧ Below w.heap.size w w' := by
  by_cases h : 0 < t.size
  · by_cases hq : t[0].toNat = 34
    · exact runl_loop hI hb0 t hs h hq _ (by omega)
    · exact runl_form t h hq _
  · exact runl_none t (by omega) _

theorem bytes_app (l : List UInt8) (x : ByteArray) : (⟨l.toArray⟩ : ByteArray) ++ x = ⟨(l ++ x.data.toList).toArray⟩ := by
  apply ByteArray.ext
  rw [ByteArray.data_append]
  simp

set_option maxRecDepth 100000 in
set_option maxHeartbeats 4000000 in
theorem rliteral_any {W0 w : World} (hI : Inv W0) (hb0 : Below W0.heap.size W0 w) (s : ByteArray) (hs : s.size ≤ 5000) :
    Calls Tryd.prog 12 #[.string s] w fun e w' => e = .returned (.string ⟨(litL s).toArray⟩) ∧ Below w.heap.size w w' := by
  have HI := Lib.hid hI
  have HB0 := Lib.hid hb0
  have HF := Lib.hid (show ∀ o : ByteArray, (⟨#[34]⟩ : ByteArray) ++ o = ⟨(litP s s.size).toArray⟩ → (⟨#[34]⟩ : ByteArray) ++ o ++ (⟨#[34]⟩ : ByteArray) = ⟨(litL s).toArray⟩ from fun o h => by rw [h, bytes_app]; rfl)
  have hlp := Lib.hid (litP_succ s)
  clear hI hb0
  go_enter Tryd.func12, Tryd.ntmps12
  go_wp2_with fail
  go_loopw [3, 4] (fun o i wr => ∃ (k : Nat) (x : ByteArray), k ≤ s.size ∧ x.size ≤ 4 * k ∧ i = .int .i64 k ∧ o = .string x ∧ Hid ((⟨#[34]⟩ : ByteArray) ++ x = ⟨(litP s k).toArray⟩) ∧ Below w.heap.size w wr)
    (fun _ i _ => s.size - (intOf i).toNat)
  case atStart => exact ⟨0, ⟨#[]⟩, Nat.zero_le _, Nat.zero_le _, rfl, rfl, Lib.hid (by rw [show (⟨#[34]⟩ : ByteArray) = ⟨[34].toArray⟩ from rfl, bytes_app]; rfl), Below.refl _ _⟩
  case round =>
    obtain ⟨k, x, hk, hxs, rfl, rfl, hx, hN⟩ := hrel
    by_cases hlt : k < s.size
    · have hsz := sgnB_size false s[k]
      have hc1 : x.size + (sgnB false s[k].toNat).size ≤ 9223372036854775807 := by omega
      have hc2 : ¬ (9223372036854775807 < x.size + (sgnB false s[k].toNat).size) := by omega
      have HS := Lib.hid (show Calls Tryd.prog 30 #[.int .u8 s[k].toNat, .string ⟨#[34, 92]⟩] wr fun e w' => e = .returned (.string (sgnB false s[k].toNat)) ∧ Below wr.heap.size wr w' from rSign_any false HI.out (HB0.out.trans (hN.mono HB0.out.size)) s[k])
      go_wp2_with (go_at_call 30; refine HS.out.mono ?_; rintro e w2 ⟨rfl, hb2⟩)
      go_roundw
      case rel =>
        refine ⟨k + 1, _, by omega, by rw [ByteArray.size_append]; omega, by go_num, rfl, Lib.hid ?_, hN.trans (hb2.mono hN.size)⟩
        rw [← ByteArray.append_assoc, hx.out, bytes_app, hlp.out k hlt]
        rfl
      case measure => simp [intOf]; omega
    · obtain rfl : k = s.size := by omega
      have hc1 : (⟨#[34]⟩ : ByteArray).size + x.size ≤ 9223372036854775807 := by show 1 + x.size ≤ _; omega
      have hc2 : ((⟨#[34]⟩ : ByteArray) ++ x).size + (⟨#[34]⟩ : ByteArray).size ≤ 9223372036854775807 := by rw [ByteArray.size_append]; show 1 + x.size + 1 ≤ _; omega
      have hc3 : ¬ (9223372036854775807 < (⟨#[34]⟩ : ByteArray).size + x.size) := by omega
      have hc4 : ¬ (9223372036854775807 < ((⟨#[34]⟩ : ByteArray) ++ x).size + (⟨#[34]⟩ : ByteArray).size) := by omega
      go_wp2
      go_ret
      exact ⟨congrArg (fun x => Ending.returned (Value.string x)) (HF.out _ hx.out), hN⟩
end Go.Proofs.YtjaklcmadkpmdaaDoor
end
section
namespace Go.Proofs.YtjaklcmadkpmdaaDoor
open Go Go.RowKit Go.Shelf
set_option linter.unusedSimpArgs false
set_option linter.unusedVariables false

set_option maxRecDepth 100000 in
set_option maxHeartbeats 4000000 in
theorem texts_walk (s t : ByteArray) (W : World) (hI : Inv W) :
    Calls Tryd.prog 3 #[.string s, .string t] W fun e w' => e = .returned (.bool true) ∧ Below W.heap.size W w' := by
  have HI := Lib.hid hI
  have HN := Lib.hid (Below.refl W.heap.size W)
  clear hI
  by_cases hs : s.size ≤ 3000
  · have d1 : decide ((3000 : Int) < (s.size : Int)) = false := by simp; omega
    by_cases ht : t.size ≤ 3000
    · have d2 : decide ((3000 : Int) < (t.size : Int)) = false := by simp; omega
      obtain ⟨A, hA⟩ : ∃ A : ByteArray, A = ⟨(litL s).toArray⟩ := ⟨_, rfl⟩
      have hAs : A.size ≤ 12002 := by
        rw [hA]
        show (litL s).length ≤ 12002
        unfold litL
        have := litP_len s s.size (Nat.le_refl _)
        rw [List.length_append]
        simp only [List.length_cons, List.length_nil]
        omega
      have HL := Lib.hid (show ∀ w, Below W.heap.size W w → Calls Tryd.prog 9 #[.string s] w fun e w' => e = .returned (.string A) ∧ Below w.heap.size w w' from fun w hb => by rw [hA]; exact literal_any HI.out hb s (by omega))
      have HR := Lib.hid (show ∀ w, Below W.heap.size W w → Calls Tryd.prog 12 #[.string s] w fun e w' => e = .returned (.string A) ∧ Below w.heap.size w w' from fun w hb => by rw [hA]; exact rliteral_any HI.out hb s (by omega))
      clear hA
      have c1 : A.size + t.size ≤ 9223372036854775807 := by omega
      have c2 : ¬ (9223372036854775807 < A.size + t.size) := by omega
      have c3 : (⟨#[34]⟩ : ByteArray).size + t.size ≤ 9223372036854775807 := by show 1 + t.size ≤ _; omega
      have c4 : ¬ (9223372036854775807 < (⟨#[34]⟩ : ByteArray).size + t.size) := by omega
      have c5 : ((⟨#[34]⟩ : ByteArray) ++ t).size + (⟨#[34]⟩ : ByteArray).size ≤ 9223372036854775807 := by rw [ByteArray.size_append]; show 1 + t.size + 1 ≤ _; omega
      have c6 : ¬ (9223372036854775807 < ((⟨#[34]⟩ : ByteArray) ++ t).size + (⟨#[34]⟩ : ByteArray).size) := by omega
      have b1 : (A ++ t).size ≤ 20000 := by rw [ByteArray.size_append]; omega
      have b2 : ((⟨#[34]⟩ : ByteArray) ++ t ++ (⟨#[34]⟩ : ByteArray)).size ≤ 20000 := by rw [ByteArray.size_append, ByteArray.size_append]; show 1 + t.size + 1 ≤ _; omega
      go_enter Tryd.func3, Tryd.ntmps3
      go_wp2_with (go_at_call 9; refine (HL.out _ HN.out).mono ?_; rintro e w1 ⟨rfl, hb1⟩)
      obtain ⟨X, hX⟩ : ∃ X : World, X = w1.alloc (.cells #[.string t, .string A, .string (A ++ t), .string ((⟨#[34]⟩ : ByteArray) ++ t ++ (⟨#[34]⟩ : ByteArray))] 9) := ⟨_, rfl⟩
      rw [← hX]
      have hXs : X.heap.size = w1.heap.size + 1 := by rw [hX]; simp
      have HT := Lib.hid (show ∀ j : Nat, j < 4 → ∃ x : ByteArray, X.cell? ⟨w1.heap.size, j, none⟩ = some (.string x) ∧ x.size ≤ 20000 from fun j hj => by
        have k : ∀ i u, (#[Value.string t, .string A, .string (A ++ t), .string ((⟨#[34]⟩ : ByteArray) ++ t ++ (⟨#[34]⟩ : ByteArray))] : Array Value)[i]? = some u → X.cell? ⟨w1.heap.size, i, none⟩ = some u := fun i u h => by
          rw [hX]
          exact (Lib.cell_of_heap (heap_alloc_new _ _) i).trans h
        have : j = 0 ∨ j = 1 ∨ j = 2 ∨ j = 3 := by omega
        rcases this with rfl | rfl | rfl | rfl
        · exact ⟨_, k 0 _ rfl, by omega⟩
        · exact ⟨_, k 1 _ rfl, by omega⟩
        · exact ⟨_, k 2 _ rfl, b1⟩
        · exact ⟨_, k 3 _ rfl, b2⟩)
      have HX := Lib.hid (show Below W.heap.size W X by rw [hX]; exact hb1.alloc hb1.size _)
      clear hX c1 c2 c3 c4 c5 c6 b1 b2 d1 d2 hAs
      go_loopw [35] (fun i wr => ∃ j : Nat, j ≤ 4 ∧ i = .int .i64 j ∧ Below X.heap.size X wr) (fun i _ => 4 - (intOf i).toNat)
      case atStart => exact ⟨0, by omega, rfl, Below.refl _ _⟩
      case round =>
        obtain ⟨j, hj, rfl, hb⟩ := hrel
        have HW := Lib.hid (HX.out.trans (hb.mono HX.out.size))
        by_cases hj4 : j < 4
        · obtain ⟨x, hx, hxs⟩ := HT.out j hj4
          have hx1 : wr.cell? ⟨w1.heap.size, j, none⟩ = some (.string x) := (hb.cell (p := ⟨w1.heap.size, j, none⟩) (by show w1.heap.size < X.heap.size; omega)).trans hx
          have hjin : (j : Int) < 4 := by omega
          obtain ⟨u, hu⟩ : ∃ u, u = unl x 0 (x.size + 1) := ⟨_, rfl⟩
          obtain ⟨a, m, f⟩ := u
          have HU1 := Lib.hid (show ∀ w, Below W.heap.size W w → Calls Tryd.prog 10 #[.string x] w fun e w' => e = .returned (.tuple #[.string a, .int .i64 m, .int .i64 f]) ∧ Below w.heap.size w w' from fun w hb => by have := unliteral_at HI.out hb x hxs; rw [← hu] at this; exact this)
          have HU2 := Lib.hid (show ∀ w, Below W.heap.size W w → Calls Tryd.prog 11 #[.string x] w fun e w' => e = .returned (.tuple #[.string a, .int .i64 m, .int .i64 f]) ∧ Below w.heap.size w w' from fun w hb => by have := runliteral_at HI.out hb x hxs; rw [← hu] at this; exact this)
          clear hu hx hxs
          go_wp2_with (first
            | (go_at_call 10; refine (HU1.out _ HW.out).mono ?_; rintro e w2 ⟨rfl, hb2⟩; have HW2 := Lib.hid (bstep HW.out hb2))
            | (go_at_call 11; refine (HU2.out _ HW2.out).mono ?_; rintro e w3 ⟨rfl, hb3⟩))
          go_roundw
          case rel => exact ⟨j + 1, by omega, by go_num, (hb.trans (hb2.mono hb.size)).trans (hb3.mono (by have := hb.size; have := hb2.size; omega))⟩
          case measure => simp [intOf]; omega
        · obtain rfl : j = 4 := by omega
          go_wp2_with (first
            | (go_at_call 12; refine (HR.out _ HW.out).mono ?_; rintro e w2 ⟨rfl, hb2⟩; have HW2 := Lib.hid (bstep HW.out hb2))
            | (go_at_call 8; refine (awake_any HI.out HW2.out).mono ?_; rintro e w3 ⟨rfl, hb3⟩))
          go_ret
          exact ⟨rfl, bstep HW2.out hb3⟩
    · have d2 : decide ((3000 : Int) < (t.size : Int)) = true := by simp; omega
      go_enter Tryd.func3, Tryd.ntmps3
      go_wp2_with (go_at_call 8; refine (awake_any HI.out HN.out).mono ?_; rintro e w1 ⟨rfl, hb1⟩)
      go_ret
      exact ⟨rfl, hb1⟩
  · have d1 : decide ((3000 : Int) < (s.size : Int)) = true := by simp; omega
    go_enter Tryd.func3, Tryd.ntmps3
    go_wp2_with (go_at_call 8; refine (awake_any HI.out HN.out).mono ?_; rintro e w1 ⟨rfl, hb1⟩)
    go_ret
    exact ⟨rfl, hb1⟩
end Go.Proofs.YtjaklcmadkpmdaaDoor
end
