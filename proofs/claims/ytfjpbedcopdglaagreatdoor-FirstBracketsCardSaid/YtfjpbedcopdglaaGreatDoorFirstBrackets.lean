/- FirstBrackets: whatever the input, the statement answers yes, and the input reads as before; the listed variables lie as their own initialisers lay them. -/
import Derived.Test.YtfjpbedcopdglaaGreatDoorCards
import Derived.Test.YtfjpbedcopdglaaGreatDoorFirL
import Derived.Test.YtfjpbedcopdglaaGreatDoorFirRan
import Derived.Test.YtfjpbedcopdglaaGreatDoorFirD
import Derived.SevenTiedAt
namespace Go.Proofs.YtfjpbedcopdglaaGreatDoor.firstBrackets
open Go Go.ChangeShapes Go.WideShapes Go.ChangeAt Go.RowKit

set_option maxRecDepth 100000 in
theorem lifted (os : Os) (started : os.Started) (H : Type) (enc : TypeId × Value → H) :
    ReturnsInHanded {} Tryz.checked os 4 .any (fun w args => (Rows.firstBracketsSpec.pre enc Tryz.prog Tryz.f4 [] false w args ∧ laidMetH Tryz.prog laidT w) ∧ sizedMet enc Tryz.prog Tryz.f4 (OpenSpec.ofChange Rows.firstBracketsSpec) false w args)
      (Rows.firstBracketsSpec.post enc Tryz.prog Tryz.f4 false true false false) := by
  refine law_lifted 4 Tryz.f4 Rows.firstBracketsSpec rfl Tryz.func4 (by kernel_rfl) ?_ rfl (by kernel_rfl)
    (ChangeSpec.witness_shaped (enc := enc) (C := Tryz.checked) (os := os) (X := fun w _ => laidMetH Tryz.prog laidT w) false (World.doorLaid Tryz.prog 60 os) #[.agg #[.int .u64 0, .int .u64 0, .int .u64 0, .int .u64 0, .bool false], .agg #[.int .u64 0, .int .u64 0, .int .u64 0, .int .u64 0, .bool false], .agg #[.int .u64 0, .int .u64 0, .int .u64 0, .int .u64 0, .bool false]] 8 rfl (World.shaped_of_RefB (by kernel_rfl) (by kernel_rfl)) (by kernel_rfl) (by kernel_rfl) (by kernel_rfl) (door_met os _)) ?_ started
  · intro H ds hd
    match ds, hd with
    | [d0, d1, d2], _ => rfl
  · intro W base args ds ps hI hval hA hps
    rw [Tryz.params4] at hA hval
    obtain ⟨v0, vs0, d0, ds0, p0, q0, hargs, rfl, rfl, h0, r0⟩ := trodAll_cons hA
    obtain ⟨v1, vs1, d1, ds1, p1, q1, rfl, rfl, rfl, h1, r1⟩ := trodAll_cons r0
    obtain ⟨v2, vs2, d2, ds2, p2, q2, rfl, rfl, rfl, h2, r2⟩ := trodAll_cons r1
    obtain ⟨rfl, rfl, rfl⟩ := trodAll_nil r2
    obtain rfl : args = #[v0, v1, v2] := by cases args; simp_all
    obtain ⟨x, hxs, rfl⟩ := open_first (hval 0 26 v0 rfl rfl) h0
    obtain ⟨y, hys, rfl⟩ := open_first (hval 1 26 v1 rfl rfl) h1
    obtain ⟨z, hzs, rfl⟩ := open_first (hval 2 26 v2 rfl rfl) h2
    exact brackets_walk x y z hxs hys hzs W (fun w hb => awake_any hI hb)

theorem in_place : (Rows.firstBracketsRow.inPlace == Tryz.prog.inPlace 4) = true := by kernel_rfl
theorem unfollowed : (Rows.firstBracketsRow.unfollowed == Tryz.prog.unfollowed 4) = true := by kernel_rfl
theorem recurses : (Rows.firstBracketsRow.recurses == Tryz.prog.recurses 4) = true := by kernel_rfl
theorem names_vars : (Rows.firstBracketsRow.named == Tryz.prog.varsNamed 4) = true := by kernel_rfl

theorem closed : joinedFacts Tryz.prog 4 Tryz.f4 Rows.firstBracketsSpec Rows.firstBracketsRow = true := by
  unfold joinedFacts
  rw [in_place, unfollowed, recurses, names_vars]
  kernel_rfl

theorem row_holds : Rows.FirstBracketsSaid :=
  OpenClaim.holds_of_wide 4 Tryz.f4 rfl rfl rfl rfl rfl rfl rfl ⟨rfl, rfl, rfl, rfl, rfl⟩ rfl rfl rfl rfl rfl (by kernel_rfl) Tryz.func4 closed
    (of_decide_eq_true (by kernel_rfl)) (by unfold Func.isWrapper; first | (rw [if_pos (by decide +kernel)]; kernel_rfl) | (rw [if_neg (by decide +kernel)]; exact ⟨rfl, rfl⟩))
    (fun os started H enc _ => lifted os started H enc)

theorem by_text : Rows.firstBracketsRow.wfByText (OpenSpec.ofChange Rows.firstBracketsSpec) = true := by kernel_rfl
theorem main_is : Tryz.prog.mainIs = some (Rows.firstBracketsCard.stood.harness.1, Rows.firstBracketsCard.stood.harness.2.toList) := by kernel_rfl
theorem no_looks : false = Tryz.prog.looks [] := by kernel_rfl
theorem no_goes : false = Rows.firstBracketsRow.goesBy Tryz.prog := by kernel_rfl

theorem proved : Rows.FirstBracketsCardSaid :=
  Claim7.holds_tied_plain_at .later [] [.data, .data, .data, .data, .data, .data, .data, .data, .data] true Rows.firstBracketsCard.stood.harness false
    row_holds (fun _ h => by cases h) by_text (fun _ h => by cases h) firstBrackets_row_tie rfl ⟨rfl, rfl⟩ main_is rfl
    (fun f fn hf hfn => by
      obtain rfl : f = 4 := Option.some.inj ((show Tryz.prog.funcNamed "bonsai/bonsailaw11.FirstBrackets" = some 4 by kernel_rfl).symm.trans hf) |>.symm
      obtain rfl : fn = Tryz.f4 := (Option.some.inj (Tryz.func4.symm.trans hfn)).symm
      exact ⟨no_looks, fun j t ht => by
        rw [Tryz.params4] at ht
        have hm := Array.mem_of_getElem? ht
        have hall : ([26, 26, 26].all fun u => !Tryz.prog.wantsStandIn u) = true := by kernel_rfl
        exact (show Tryz.prog.wantsStandIn t = false by simpa using List.all_eq_true.1 hall t (by simpa using hm))⟩)
    no_goes
end Go.Proofs.YtfjpbedcopdglaaGreatDoor.firstBrackets
