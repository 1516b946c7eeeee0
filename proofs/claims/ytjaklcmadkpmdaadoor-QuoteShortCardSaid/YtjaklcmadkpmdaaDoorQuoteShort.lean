/- QuoteShort: whatever the input, the statement answers yes, and the input reads as before; the listed variables lie as their own initialisers lay them. -/
import Derived.Test.YtjaklcmadkpmdaaDoorCards
import Derived.Test.YtjaklcmadkpmdaaDoorQuoL
import Derived.Test.YtjaklcmadkpmdaaDoorQuoZe
import Derived.SevenTiedAt
namespace Go.Proofs.YtjaklcmadkpmdaaDoor.quoteShort
open Go Go.ChangeShapes Go.WideShapes Go.ChangeAt Go.RowKit

set_option maxRecDepth 100000 in
theorem lifted (os : Os) (started : os.Started) (H : Type) (enc : TypeId × Value → H) :
    ReturnsInHanded {} Tryd.checked os 7 .any (fun w args => (Rows.quoteShortSpec.pre enc Tryd.prog Tryd.f7 [] false w args ∧ laidMetH Tryd.prog laidT w) ∧ sizedMet enc Tryd.prog Tryd.f7 (OpenSpec.ofChange Rows.quoteShortSpec) false w args)
      (Rows.quoteShortSpec.post enc Tryd.prog Tryd.f7 false true false false) := by
  refine law_lifted 7 Tryd.f7 Rows.quoteShortSpec rfl Tryd.func7 (by kernel_rfl) ?_ rfl (by kernel_rfl)
    (ChangeSpec.witness_shaped (enc := enc) (C := Tryd.checked) (os := os) (X := fun w _ => laidMetH Tryd.prog laidT w) false (World.doorLaid Tryd.prog 60 os) #[.string ⟨#[]⟩] 8 rfl (World.shaped_of_RefB (by kernel_rfl) (by kernel_rfl)) (by kernel_rfl) (by kernel_rfl) (by kernel_rfl) (door_met os _)) ?_ started
  · intro H ds hd
    match ds, hd with
    | [d0], _ => rfl
  · intro W base args ds ps hI hval hA hps
    rw [Tryd.params7] at hA hval
    obtain ⟨v0, vs0, d0, ds0, p0, q0, hargs, rfl, rfl, h0, r0⟩ := trodAll_cons hA
    obtain ⟨rfl, rfl, rfl⟩ := trodAll_nil r0
    obtain rfl : args = #[v0] := by cases args; simp_all
    obtain ⟨t, rfl, _⟩ := open_string (hval 0 9 v0 rfl rfl) h0
    exact short_walk t W hI

theorem in_place : (Rows.quoteShortRow.inPlace == Tryd.prog.inPlace 7) = true := by kernel_rfl
theorem unfollowed : (Rows.quoteShortRow.unfollowed == Tryd.prog.unfollowed 7) = true := by kernel_rfl
theorem recurses : (Rows.quoteShortRow.recurses == Tryd.prog.recurses 7) = true := by kernel_rfl
theorem names_vars : (Rows.quoteShortRow.named == Tryd.prog.varsNamed 7) = true := by kernel_rfl

theorem closed : joinedFacts Tryd.prog 7 Tryd.f7 Rows.quoteShortSpec Rows.quoteShortRow = true := by
  unfold joinedFacts
  rw [in_place, unfollowed, recurses, names_vars]
  kernel_rfl

theorem row_holds : Rows.QuoteShortSaid :=
  OpenClaim.holds_of_wide 7 Tryd.f7 rfl rfl rfl rfl rfl rfl rfl ⟨rfl, rfl, rfl, rfl, rfl⟩ rfl rfl rfl rfl rfl (by kernel_rfl) Tryd.func7 closed
    (of_decide_eq_true (by kernel_rfl)) (by unfold Func.isWrapper; first | (rw [if_pos (by decide +kernel)]; kernel_rfl) | (rw [if_neg (by decide +kernel)]; exact ⟨rfl, rfl⟩))
    (fun os started H enc _ => lifted os started H enc)

theorem by_text : Rows.quoteShortRow.wfByText (OpenSpec.ofChange Rows.quoteShortSpec) = true := by kernel_rfl
theorem main_is : Tryd.prog.mainIs = some (Rows.quoteShortCard.stood.harness.1, Rows.quoteShortCard.stood.harness.2.toList) := by kernel_rfl
theorem no_looks : false = Tryd.prog.looks [] := by kernel_rfl
theorem no_goes : false = Rows.quoteShortRow.goesBy Tryd.prog := by kernel_rfl

theorem proved : Rows.QuoteShortCardSaid :=
  Claim7.holds_tied_plain_at .later [] [.data] true Rows.quoteShortCard.stood.harness false
    row_holds (fun _ h => by cases h) by_text (fun _ h => by cases h) quoteShort_row_tie rfl ⟨rfl, rfl⟩ main_is rfl
    (fun f fn hf hfn => by
      obtain rfl : f = 7 := Option.some.inj ((show Tryd.prog.funcNamed "bonsai/bonsailaw03.QuoteShort" = some 7 by kernel_rfl).symm.trans hf) |>.symm
      obtain rfl : fn = Tryd.f7 := (Option.some.inj (Tryd.func7.symm.trans hfn)).symm
      exact ⟨no_looks, fun j t ht => by
        rw [Tryd.params7] at ht
        have hm := Array.mem_of_getElem? ht
        have hall : ([9].all fun u => !Tryd.prog.wantsStandIn u) = true := by kernel_rfl
        exact (show Tryd.prog.wantsStandIn t = false by simpa using List.all_eq_true.1 hall t (by simpa using hm))⟩)
    no_goes
end Go.Proofs.YtjaklcmadkpmdaaDoor.quoteShort
