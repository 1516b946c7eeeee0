/- strings.Compare, and what it calls, by the shelf's contracts: for every two texts. -/
import Derived.Shelf.Small.Strs
import Derived.Test.YtnonpolifipblaaDoorProg
namespace Go.Proofs.YtnonpolifipblaaDoor
open Go.Shelf
def lays213_ren : Go.Shelf.Ren := ⟨fun | 213 => 30 | 265 => 33 | n => n, fun | 9 => 9 | 3 => 3 | n => n, fun | n => n⟩
theorem lays213 : Lays.n213 Tryd.prog lays213_ren := {
  mixed := by kernel_rfl
  f213 := Tryd.func30.trans (congrArg some (by kernel_rfl))
  f265 := Tryd.func33.trans (congrArg some (by kernel_rfl))
  t3 := Tryd.underlying3
  a3 := Tryd.isAgg3
  z3 := Tryd.sizeOf3
  v3 := Tryd.zeroValue3
  t9 := Tryd.underlying9
  a9 := Tryd.isAgg9
  z9 := Tryd.sizeOf9
  v9 := Tryd.zeroValue9 }
open Go.RowKit in
/-- internal/bytealg.CompareString (what strings.Compare calls): IT RETURNS 'Lib.compareBytes a b'; the world is as it was. (LAID: no walk: one application.) -/
theorem bytealg_CompareString (a b : ByteArray) (w : World) :
    Calls Tryd.prog 30 #[.string a, .string b] w fun e w' => e = .returned (.int .i64 (Lib.compareBytes a.data.toList b.data.toList)) ∧ w' = w := Any.bytealg_CompareString lays213 a b w
def lays106_ren : Go.Shelf.Ren := ⟨fun | 106 => 27 | 213 => 30 | 265 => 33 | n => n, fun | 9 => 9 | 3 => 3 | n => n, fun | n => n⟩
theorem lays106 : Lays.n106 Tryd.prog lays106_ren := {
  mixed := by kernel_rfl
  f106 := Tryd.func27.trans (congrArg some (by kernel_rfl))
  f213 := Tryd.func30.trans (congrArg some (by kernel_rfl))
  f265 := Tryd.func33.trans (congrArg some (by kernel_rfl))
  t3 := Tryd.underlying3
  a3 := Tryd.isAgg3
  z3 := Tryd.sizeOf3
  v3 := Tryd.zeroValue3
  t9 := Tryd.underlying9
  a9 := Tryd.isAgg9
  z9 := Tryd.sizeOf9
  v9 := Tryd.zeroValue9 }
open Go.RowKit in
/-- strings.Compare: "Compare returns an integer comparing two strings lexicographically. The result will be 0 if a == b, -1 if a < b, and +1 if a > b.": IT RETURNS 'Lib.compareBytes a b'; the world is as it was. (LAID: no walk: one application.) -/
theorem strings_Compare (a b : ByteArray) (w : World) :
    Calls Tryd.prog 27 #[.string a, .string b] w fun e w' => e = .returned (.int .i64 (Lib.compareBytes a.data.toList b.data.toList)) ∧ w' = w := Any.strings_Compare lays106 a b w

open Go.RowKit in
theorem cb_range : ∀ l m : List UInt8, -1 ≤ Lib.compareBytes l m ∧ Lib.compareBytes l m ≤ 1
  | [], [] => by simp [Lib.compareBytes]
  | [], _ :: _ => by simp [Lib.compareBytes]
  | _ :: _, [] => by simp [Lib.compareBytes]
  | a :: l, b :: m => by
    have ih := cb_range l m
    unfold Lib.compareBytes
    split
    · decide
    · split
      · decide
      · exact ih
open Go.RowKit in
theorem cb_turn : ∀ l m : List UInt8, Lib.compareBytes m l = -Lib.compareBytes l m
  | [], [] => by simp [Lib.compareBytes]
  | [], _ :: _ => by simp [Lib.compareBytes]
  | _ :: _, [] => by simp [Lib.compareBytes]
  | a :: l, b :: m => by
    have ih := cb_turn l m
    simp only [Lib.compareBytes, UInt8.lt_iff_toNat_lt]
    by_cases h1 : a.toNat < b.toNat
    · have h2 : ¬ b.toNat < a.toNat := by omega
      simp [h1, h2]
    · by_cases h2 : b.toNat < a.toNat
      · simp [h1, h2]
      · simp [h1, h2, ih]
open Go.RowKit in
theorem cb_zero : ∀ l m : List UInt8, Lib.compareBytes l m = 0 ↔ l = m
  | [], [] => by simp [Lib.compareBytes]
  | [], _ :: _ => by simp [Lib.compareBytes]
  | _ :: _, [] => by simp [Lib.compareBytes]
  | a :: l, b :: m => by
    have ih := cb_zero l m
    simp only [Lib.compareBytes, UInt8.lt_iff_toNat_lt, List.cons.injEq]
    by_cases h1 : a.toNat < b.toNat
    · have : ¬ a = b := fun e => by rw [e] at h1; omega
      simp [h1, this]
    · by_cases h2 : b.toNat < a.toNat
      · have : ¬ a = b := fun e => by rw [e] at h2; omega
        simp [h1, h2, this]
      · obtain rfl : a = b := UInt8.toNat_inj.1 (by omega)
        simp [ih]
open Go.RowKit in
theorem cb_trans : ∀ l m n : List UInt8, (Lib.compareBytes l m ≤ 0 → Lib.compareBytes m n ≤ 0 → Lib.compareBytes l n ≤ 0) ∧ (Lib.compareBytes l m < 0 → Lib.compareBytes m n ≤ 0 → Lib.compareBytes l n < 0) ∧ (Lib.compareBytes l m ≤ 0 → Lib.compareBytes m n < 0 → Lib.compareBytes l n < 0)
  | [], [], [] => by simp [Lib.compareBytes]
  | [], [], _ :: _ => by simp [Lib.compareBytes]
  | [], _ :: _, [] => by simp [Lib.compareBytes]
  | [], _ :: _, _ :: _ => by simp [Lib.compareBytes]
  | _ :: _, [], [] => by simp [Lib.compareBytes]
  | _ :: _, [], _ :: _ => by simp [Lib.compareBytes]
  | _ :: _, _ :: _, [] => by simp [Lib.compareBytes]
  | a :: l, b :: m, c :: n => by
    have ih := cb_trans l m n
    simp only [Lib.compareBytes, UInt8.lt_iff_toNat_lt]
    by_cases h1 : a.toNat < b.toNat
    · by_cases h3 : b.toNat < c.toNat
      · have h5 : a.toNat < c.toNat := by omega
        simp [h1, h3, h5]
      · by_cases h4 : c.toNat < b.toNat
        · simp [h1, h3, h4]
        · have h5 : a.toNat < c.toNat := by omega
          simp [h1, h3, h4, h5]
    · by_cases h2 : b.toNat < a.toNat
      · simp [h1, h2]
      · by_cases h3 : b.toNat < c.toNat
        · have h5 : a.toNat < c.toNat := by omega
          simp [h1, h2, h3, h5]
        · by_cases h4 : c.toNat < b.toNat
          · simp [h1, h2, h3, h4]
          · have h5 : ¬ a.toNat < c.toNat := by omega
            have h6 : ¬ c.toNat < a.toNat := by omega
            simp only [h1, h2, h3, h4, h5, h6, if_false]
            exact ih


end Go.Proofs.YtnonpolifipblaaDoor
