/- QuoteTexts: whatever the input, the statement answers yes, and the input reads as before; the listed variables lie as their own initialisers lay them. -/
import Derived.Test.YtjaklcmadkpmdaaDoorCards
import Derived.Test.YtjaklcmadkpmdaaDoorQuoL
import Derived.Test.YtjaklcmadkpmdaaDoorQuoRh
import Derived.SevenTiedAt
namespace Go.Proofs.YtjaklcmadkpmdaaDoor.quoteTexts
open Go Go.ChangeShapes Go.WideShapes Go.ChangeAt Go.RowKit

set_option maxRecDepth 100000 in
theorem lifted (os : Os) (started : os.Started) (H : Type) (enc : TypeId × Value → H) :
    ReturnsInHanded {} Tryd.checked os 3 .any (fun w args => (Rows.quoteTextsSpec.pre enc Tryd.prog Tryd.f3 [] false w args ∧ laidMetH Tryd.prog laidT w) ∧ sizedMet enc Tryd.prog Tryd.f3 (OpenSpec.ofChange Rows.quoteTextsSpec) false w args)
      (Rows.quoteTextsSpec.post enc Tryd.prog Tryd.f3 false true false false) := by
  refine law_lifted 3 Tryd.f3 Rows.quoteTextsSpec rfl Tryd.func3 (by kernel_rfl) ?_ rfl (by kernel_rfl)
    (ChangeSpec.witness_shaped (enc := enc) (C := Tryd.checked) (os := os) (X := fun w _ => laidMetH Tryd.prog laidT w) false (World.doorLaid Tryd.prog 60 os) #[.string ⟨#[]⟩, .string ⟨#[]⟩] 8 rfl (World.shaped_of_RefB (by kernel_rfl) (by kernel_rfl)) (by kernel_rfl) (by kernel_rfl) (by kernel_rfl) (door_met os _)) ?_ started
  · intro H ds hd
    match ds, hd with
    | [d0, d1], _ => rfl
  · intro W base args ds ps hI hval hA hps
    rw [Tryd.params3] at hA hval
    obtain ⟨v0, vs0, d0, ds0, p0, q0, hargs, rfl, rfl, h0, r0⟩ := trodAll_cons hA
    obtain ⟨v1, vs1, d1, ds1, p1, q1, rfl, rfl, rfl, h1, r1⟩ := trodAll_cons r0
    obtain ⟨rfl, rfl, rfl⟩ := trodAll_nil r1
    obtain rfl : args = #[v0, v1] := by cases args; simp_all
    obtain ⟨s, rfl, _⟩ := open_string (hval 0 9 v0 rfl rfl) h0
    obtain ⟨t, rfl, _⟩ := open_string (hval 1 9 v1 rfl rfl) h1
    exact texts_walk s t W hI

theorem in_place : (Rows.quoteTextsRow.inPlace == Tryd.prog.inPlace 3) = true := by kernel_rfl
theorem unfollowed : (Rows.quoteTextsRow.unfollowed == Tryd.prog.unfollowed 3) = true := by kernel_rfl
theorem recurses : (Rows.quoteTextsRow.recurses == Tryd.prog.recurses 3) = true := by kernel_rfl
theorem names_vars : (Rows.quoteTextsRow.named == Tryd.prog.varsNamed 3) = true := by kernel_rfl

theorem closed : joinedFacts Tryd.prog 3 Tryd.f3 Rows.quoteTextsSpec Rows.quoteTextsRow = true := by
  unfold joinedFacts
  rw [in_place, unfollowed, recurses, names_vars]
  kernel_rfl

theorem row_holds : Rows.QuoteTextsSaid :=
  OpenClaim.holds_of_wide 3 Tryd.f3 rfl rfl rfl rfl rfl rfl rfl ⟨rfl, rfl, rfl, rfl, rfl⟩ rfl rfl rfl rfl rfl (by kernel_rfl) Tryd.func3 closed
    (of_decide_eq_true (by kernel_rfl)) (by unfold Func.isWrapper; first | (rw [if_pos (by decide +kernel)]; kernel_rfl) | (rw [if_neg (by decide +kernel)]; exact ⟨rfl, rfl⟩))
    (fun os started H enc _ => lifted os started H enc)

theorem by_text : Rows.quoteTextsRow.wfByText (OpenSpec.ofChange Rows.quoteTextsSpec) = true := by kernel_rfl
theorem main_is : Tryd.prog.mainIs = some (Rows.quoteTextsCard.stood.harness.1, Rows.quoteTextsCard.stood.harness.2.toList) := by kernel_rfl
theorem no_looks : false = Tryd.prog.looks [] := by kernel_rfl
theorem no_goes : false = Rows.quoteTextsRow.goesBy Tryd.prog := by kernel_rfl

theorem proved : Rows.QuoteTextsCardSaid :=
  Claim7.holds_tied_plain_at .later [] [.data] true Rows.quoteTextsCard.stood.harness false
    row_holds (fun _ h => by cases h) by_text (fun _ h => by cases h) quoteTexts_row_tie rfl ⟨rfl, rfl⟩ main_is rfl
    (fun f fn hf hfn => by
      obtain rfl : f = 3 := Option.some.inj ((show Tryd.prog.funcNamed "bonsai/bonsailaw03.QuoteTexts" = some 3 by kernel_rfl).symm.trans hf) |>.symm
      obtain rfl : fn = Tryd.f3 := (Option.some.inj (Tryd.func3.symm.trans hfn)).symm
      exact ⟨no_looks, fun j t ht => by
        rw [Tryd.params3] at ht
        have hm := Array.mem_of_getElem? ht
        have hall : ([9, 9].all fun u => !Tryd.prog.wantsStandIn u) = true := by kernel_rfl
        exact (show Tryd.prog.wantsStandIn t = false by simpa using List.all_eq_true.1 hall t (by simpa using hm))⟩)
    no_goes
end Go.Proofs.YtjaklcmadkpmdaaDoor.quoteTexts
