/- The reader: begins, expect, digit. -/
import Derived.Test.YtjaklcmadkpmdaaDoorQuoM
section
namespace Go.Proofs.YtjaklcmadkpmdaaDoor
open Go Go.RowKit Go.Shelf
set_option linter.unusedSimpArgs false
set_option linter.unusedVariables false

/-- May a sign begin by it? -/
def beginsB (cls : Bool) (c : UInt8) : Bool := ((c.toNat : Int) == 92) || plainB cls c

set_option maxHeartbeats 4000000 in
theorem begins_any (cls : Bool) {W0 W : World} (hI : Inv W0) (hb0 : Below W0.heap.size W0 W) (b : Nat) (r : Rd) (h : RdAt W b r) (hr : r.bare = bareB cls) (c : UInt8) :
    Calls Tryd.prog 44 #[.pointer (some ⟨b, 0, none⟩), .int .u8 c.toNat] W fun e w' => e = .returned (.bool (beginsB cls c)) ∧ Below W.heap.size W w' := by
  have HP := Lib.hid (plain_any cls hI hb0 b r h hr c)
  unfold beginsB
  cases h1 : ((c.toNat : Int) == 92)
  all_goals
    go_enter Tryd.func44, Tryd.ntmps44
    go_wp2_with (go_at_call 57; refine HP.out.mono ?_; rintro e w1 ⟨rfl, hb1⟩)
    go_ret
    first | exact ⟨rfl, hb1⟩ | exact ⟨rfl, Below.refl _ _⟩

/-- Behind a byte, if it stands there. -/
def Rd.expect (r : Rd) (c : UInt8) : Rd := if r.e ≠ 0 then r else if r.next c then { r with at' := r.at' + 1 } else r.bad

theorem next_lt {r : Rd} {c : UInt8} (h : r.next c = true) : r.at' < r.text.size := by
  unfold Rd.next Rd.cur at h
  rcases Nat.lt_or_ge r.at' r.text.size with h1 | h1
  · exact h1
  · rw [Array.getElem?_eq_none (by exact h1)] at h
    cases h

set_option maxHeartbeats 4000000 in
theorem expect_any (W : World) (b : Nat) (r : Rd) (h : RdAt W b r) (hs : r.text.size ≤ 1000000000) (c : UInt8) :
    Calls Tryd.prog 28 #[.pointer (some ⟨b, 0, none⟩), .int .u8 c.toNat] W fun e w' => (∃ v, e = .returned v) ∧ RdAt w' b (r.expect c) ∧ Only b W w' := by
  obtain ⟨x0, x1, x2, x3, x4⟩ := h.cells
  have HN := Lib.hid (next_any W b r h c)
  unfold Rd.expect
  by_cases he : r.e = 0
  · rw [if_neg (by omega)]
    have hd : ((r.e : Int) != 0) = false := by rw [bne_eq_false_iff_eq]; omega
    cases hn : r.next c
    · rw [hn] at HN
      rw [if_neg (by simp)]
      go_enter Tryd.func28, Tryd.ntmps28
      go_wp2_with (first
        | (go_at_call 32; refine HN.out.mono ?_; rintro e w1 ⟨rfl, hb1⟩)
        | (go_at_call 45; refine (fault_any w1 b r (h.below hb1 h.lt)).mono ?_; rintro e w2 ⟨⟨v, rfl⟩, h2, hO⟩))
      refine bodyPost_end (v := .tuple #[]) (by simp [results, Tryd.results28, go_sem]) rfl ⟨⟨_, rfl⟩, h2, (Only.of hb1).trans hO⟩
    · rw [hn] at HN
      rw [if_pos rfl]
      have hlt := next_lt hn
      go_enter Tryd.func28, Tryd.ntmps28
      go_wp2_with (go_at_call 32; refine HN.out.mono ?_; rintro e w1 ⟨rfl, hb1⟩; have h1 := h.below hb1 h.lt; obtain ⟨y0, y1, y2, y3, y4⟩ := h1.cells; obtain ⟨f3, f4⟩ := h1.free)
      have h2 := h1.setAt (r.at' + 1)
      refine bodyPost_end (v := .tuple #[]) (by simp [results, Tryd.results28, go_sem]) rfl ⟨⟨_, rfl⟩, ?_, ?_⟩
      · simpa using h2
      · exact (Only.of hb1).setCell 3 _
  · rw [if_pos he]
    have hd : ((r.e : Int) != 0) = true := by rw [bne_iff_ne]; omega
    go_enter Tryd.func28, Tryd.ntmps28
    go_wp2
    refine bodyPost_end (v := .tuple #[]) (by simp [results, Tryd.results28, go_sem]) rfl ⟨⟨_, rfl⟩, h, Only.of (Below.refl _ _)⟩
end Go.Proofs.YtjaklcmadkpmdaaDoor
end
section
namespace Go.Proofs.YtjaklcmadkpmdaaDoor
open Go Go.RowKit Go.Shelf
set_option linter.unusedSimpArgs false
set_option linter.unusedVariables false

/-- A byte, small. -/
def smallB (c : Nat) : Nat := if 65 ≤ c ∧ c ≤ 70 then c + 32 else c
/-- A hexadecimal digit's number, or -1. -/
def hexZ (c : UInt8) : Int := placeOf (smallB c.toNat) hexL 0
theorem placeOf_lt (b : Nat) : ∀ (l : List Nat) (i : Int), 0 ≤ i → placeOf b l i < i + l.length ∧ (placeOf b l i = -1 ∨ 0 ≤ placeOf b l i)
  | [], i, h => by unfold placeOf; simp; omega
  | x :: r, i, h => by
    unfold placeOf
    split
    · simp only [List.length_cons]; omega
    · have := placeOf_lt b r (i + 1) (by omega)
      simp only [List.length_cons]; omega
theorem hexZ_lt (c : UInt8) : hexZ c < 16 ∧ (hexZ c = -1 ∨ 0 ≤ hexZ c) := by
  have := placeOf_lt (smallB c.toNat) hexL 0 (by decide)
  unfold hexZ
  have e : (hexL.length : Int) = 16 := rfl
  omega

/-- One digit. -/
def Rd.digit (r : Rd) : Int × Rd :=
  if r.e ≠ 0 then (0, r) else match r.cur with
  | some c => if 0 ≤ hexZ c then (hexZ c, { r with at' := r.at' + 1 }) else (0, r.bad)
  | none => (0, r.bad)

set_option maxHeartbeats 4000000 in
theorem digit_any {W0 W : World} (hI : Inv W0) (hb0 : Below W0.heap.size W0 W) (b : Nat) (hb : W0.heap.size ≤ b) (r : Rd) (h : RdAt W b r) (hs : r.text.size ≤ 1000000000) :
    Calls Tryd.prog 50 #[.pointer (some ⟨b, 0, none⟩)] W fun e w' => e = .returned (.int .u8 r.digit.1) ∧ RdAt w' b r.digit.2 ∧ Only b W w' := by
  obtain ⟨x0, x1, x2, x3, x4⟩ := h.cells
  have HI := Lib.hid hI
  have HB0 := Lib.hid hb0
  clear hI hb0
  unfold Rd.digit
  by_cases he : r.e = 0
  · rw [if_neg (by omega)]
    have hd : ((r.e : Int) != 0) = false := by rw [bne_eq_false_iff_eq]; omega
    by_cases hlt : r.at' < r.text.size
    · have hc : r.cur = some r.text[r.at'] := by unfold Rd.cur; exact Array.getElem?_eq_getElem _
      rw [hc]
      have hdl : decide ((r.at' : Int) < (r.text.size : Int)) = true := by simp; omega
      dsimp only
      have hz := hexZ_lt r.text[r.at']
      have hu := UInt8.toNat_lt r.text[r.at']
      obtain ⟨z, hze⟩ : ∃ z, z = hexZ r.text[r.at'] := ⟨_, rfl⟩
      obtain ⟨n, hn⟩ : ∃ n, n = smallB r.text[r.at'].toNat := ⟨_, rfl⟩
      have hnl : n < 256 := by rw [hn]; unfold smallB; split <;> omega
      have HP := Lib.hid (show ∀ W : World, Below W0.heap.size W0 W → Calls Tryd.prog 42 #[.string ⟨#[48, 49, 50, 51, 52, 53, 54, 55, 56, 57, 97, 98, 99, 100, 101, 102]⟩, .int .u8 n] W fun e W' => e = .returned (.int .i64 z) ∧ Below W.heap.size W W' from fun W hb => by have h := place_hex HI.out hb n hnl; rw [show placeOf n hexL 0 = z by rw [hze, hn]; rfl] at h; exact h)
      rw [← hze] at hz ⊢
      have HD : RdAt W.drew.drew b r := h
      have HB : Below W0.heap.size W0 W.drew.drew := HB0.out.drew.drew
      have hO : Only b W W.drew.drew := Only.of (Below.refl _ _).drew.drew
      have hnz : 0 ≤ z → IntKind.u8.wrap z = z := fun h => by rw [IntKind.wrap_u8, Int.emod_eq_of_lt h (by omega)]
      unfold smallB at hn
      clear hze hnl
      by_cases k3 : 0 ≤ z
      · have d3 : decide (0 ≤ z) = true := by simpa using k3
        have hw := hnz k3
        rw [if_pos k3]
        by_cases k1 : 65 ≤ r.text[r.at'].toNat
        · have d1 : decide (65 ≤ (r.text[r.at'].toNat : Int)) = true := by simp; omega
          by_cases k2 : r.text[r.at'].toNat ≤ 70
          · have d2 : decide ((r.text[r.at'].toNat : Int) ≤ 70) = true := by simp; omega
            rw [if_pos ⟨k1, k2⟩] at hn
            have hwn : IntKind.u8.wrap ((r.text[r.at'].toNat : Int) + 32) = (n : Int) := by rw [IntKind.wrap_u8, Int.emod_eq_of_lt (by omega) (by omega)]; omega
            have hwn2 : ((r.text[r.at'].toNat : Int) + 32) % 256 = (n : Int) := by rw [Int.emod_eq_of_lt (by omega) (by omega)]; omega
            have hwn3 : ((r.text[r.at'].toNat : Int) + 32) = (n : Int) := by omega
            clear hn
            go_enter Tryd.func50, Tryd.ntmps50
            go_wp2_with fail
            go_region
            all_goals
              go_wp2_with fail
              go_region
            all_goals
              go_wp2_with (go_at_call 42; (try rw [hwn]); (try rw [hwn2]); (try rw [hwn3]); refine (HP.out _ HB).mono ?_; rintro e w1 ⟨rfl, hb1⟩; have h1 := HD.below hb1 HD.lt; obtain ⟨y0, y1, y2, y3, y4⟩ := h1.cells; obtain ⟨f3, f4⟩ := h1.free)
              go_ret
              first | exact ⟨congrArg (fun x => Ending.returned (Value.int IntKind.u8 x)) hw, by simpa using h1.setAt (r.at' + 1), (hO.trans (Only.of hb1)).setCell 3 _⟩ | exact ⟨by simp [hw], by simpa using h1.setAt (r.at' + 1), (hO.trans (Only.of hb1)).setCell 3 _⟩
          · have d2 : decide ((r.text[r.at'].toNat : Int) ≤ 70) = false := by simp; omega
            rw [if_neg (by omega)] at hn
            subst hn
            go_enter Tryd.func50, Tryd.ntmps50
            go_wp2_with fail
            go_region
            all_goals
              go_wp2_with fail
              go_region
            all_goals
              go_wp2_with (go_at_call 42; (try rw [hwn]); (try rw [hwn2]); (try rw [hwn3]); refine (HP.out _ HB).mono ?_; rintro e w1 ⟨rfl, hb1⟩; have h1 := HD.below hb1 HD.lt; obtain ⟨y0, y1, y2, y3, y4⟩ := h1.cells; obtain ⟨f3, f4⟩ := h1.free)
              go_ret
              first | exact ⟨congrArg (fun x => Ending.returned (Value.int IntKind.u8 x)) hw, by simpa using h1.setAt (r.at' + 1), (hO.trans (Only.of hb1)).setCell 3 _⟩ | exact ⟨by simp [hw], by simpa using h1.setAt (r.at' + 1), (hO.trans (Only.of hb1)).setCell 3 _⟩
        · have d1 : decide (65 ≤ (r.text[r.at'].toNat : Int)) = false := by simp; omega
          rw [if_neg (by omega)] at hn
          subst hn
          go_enter Tryd.func50, Tryd.ntmps50
          go_wp2_with fail
          go_region
          all_goals
            go_wp2_with fail
            go_region
          all_goals
            go_wp2_with (go_at_call 42; (try rw [hwn]); (try rw [hwn2]); (try rw [hwn3]); refine (HP.out _ HB).mono ?_; rintro e w1 ⟨rfl, hb1⟩; have h1 := HD.below hb1 HD.lt; obtain ⟨y0, y1, y2, y3, y4⟩ := h1.cells; obtain ⟨f3, f4⟩ := h1.free)
            go_ret
            first | exact ⟨congrArg (fun x => Ending.returned (Value.int IntKind.u8 x)) hw, by simpa using h1.setAt (r.at' + 1), (hO.trans (Only.of hb1)).setCell 3 _⟩ | exact ⟨by simp [hw], by simpa using h1.setAt (r.at' + 1), (hO.trans (Only.of hb1)).setCell 3 _⟩
      · have d3 : decide (0 ≤ z) = false := by simpa using k3
        rw [if_neg k3]
        by_cases k1 : 65 ≤ r.text[r.at'].toNat
        · have d1 : decide (65 ≤ (r.text[r.at'].toNat : Int)) = true := by simp; omega
          by_cases k2 : r.text[r.at'].toNat ≤ 70
          · have d2 : decide ((r.text[r.at'].toNat : Int) ≤ 70) = true := by simp; omega
            rw [if_pos ⟨k1, k2⟩] at hn
            have hwn : IntKind.u8.wrap ((r.text[r.at'].toNat : Int) + 32) = (n : Int) := by rw [IntKind.wrap_u8, Int.emod_eq_of_lt (by omega) (by omega)]; omega
            have hwn2 : ((r.text[r.at'].toNat : Int) + 32) % 256 = (n : Int) := by rw [Int.emod_eq_of_lt (by omega) (by omega)]; omega
            have hwn3 : ((r.text[r.at'].toNat : Int) + 32) = (n : Int) := by omega
            clear hn
            go_enter Tryd.func50, Tryd.ntmps50
            go_wp2_with fail
            go_region
            all_goals
              go_wp2_with fail
              go_region
            all_goals
              go_wp2_with (first
                | (go_at_call 42; (try rw [hwn]); (try rw [hwn2]); (try rw [hwn3]); refine (HP.out _ HB).mono ?_; rintro e w1 ⟨rfl, hb1⟩; have h1 := HD.below hb1 HD.lt; obtain ⟨y0, y1, y2, y3, y4⟩ := h1.cells; obtain ⟨f3, f4⟩ := h1.free)
                | (go_at_call 45; refine (fault_any _ b r h1).mono ?_; rintro e w2 ⟨⟨v, rfl⟩, h2, hO2⟩))
              go_ret
              exact ⟨rfl, h2, (hO.trans (Only.of hb1)).trans hO2⟩
          · have d2 : decide ((r.text[r.at'].toNat : Int) ≤ 70) = false := by simp; omega
            rw [if_neg (by omega)] at hn
            subst hn
            go_enter Tryd.func50, Tryd.ntmps50
            go_wp2_with fail
            go_region
            all_goals
              go_wp2_with fail
              go_region
            all_goals
              go_wp2_with (first
                | (go_at_call 42; (try rw [hwn]); (try rw [hwn2]); (try rw [hwn3]); refine (HP.out _ HB).mono ?_; rintro e w1 ⟨rfl, hb1⟩; have h1 := HD.below hb1 HD.lt; obtain ⟨y0, y1, y2, y3, y4⟩ := h1.cells; obtain ⟨f3, f4⟩ := h1.free)
                | (go_at_call 45; refine (fault_any _ b r h1).mono ?_; rintro e w2 ⟨⟨v, rfl⟩, h2, hO2⟩))
              go_ret
              exact ⟨rfl, h2, (hO.trans (Only.of hb1)).trans hO2⟩
        · have d1 : decide (65 ≤ (r.text[r.at'].toNat : Int)) = false := by simp; omega
          rw [if_neg (by omega)] at hn
          subst hn
          go_enter Tryd.func50, Tryd.ntmps50
          go_wp2_with fail
          go_region
          all_goals
            go_wp2_with fail
            go_region
          all_goals
            go_wp2_with (first
              | (go_at_call 42; (try rw [hwn]); (try rw [hwn2]); (try rw [hwn3]); refine (HP.out _ HB).mono ?_; rintro e w1 ⟨rfl, hb1⟩; have h1 := HD.below hb1 HD.lt; obtain ⟨y0, y1, y2, y3, y4⟩ := h1.cells; obtain ⟨f3, f4⟩ := h1.free)
              | (go_at_call 45; refine (fault_any _ b r h1).mono ?_; rintro e w2 ⟨⟨v, rfl⟩, h2, hO2⟩))
            go_ret
            exact ⟨rfl, h2, (hO.trans (Only.of hb1)).trans hO2⟩
    · have hc : r.cur = none := by unfold Rd.cur; exact Array.getElem?_eq_none (by show r.text.size ≤ _; omega)
      rw [hc]
      have hdl : decide ((r.at' : Int) < (r.text.size : Int)) = false := by simp; omega
      dsimp only
      go_enter Tryd.func50, Tryd.ntmps50
      go_wp2_with fail
      go_region
      all_goals
        go_wp2_with (go_at_call 45; refine (fault_any _ b r h.drew).mono ?_; rintro e w2 ⟨⟨v, rfl⟩, h2, hO⟩)
        go_ret
        exact ⟨rfl, h2, (Only.of (Below.refl _ _).drew).trans hO⟩
  · rw [if_pos he]
    have hd : ((r.e : Int) != 0) = true := by rw [bne_iff_ne]; omega
    go_enter Tryd.func50, Tryd.ntmps50
    go_wp2
    go_ret
    exact ⟨rfl, h, Only.of (Below.refl _ _)⟩
end Go.Proofs.YtjaklcmadkpmdaaDoor
end
