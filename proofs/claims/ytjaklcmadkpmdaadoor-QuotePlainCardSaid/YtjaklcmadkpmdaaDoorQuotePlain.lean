/- QuotePlain: whatever the input, the statement answers yes, and the input reads as before; the listed variables lie as their own initialisers lay them. -/
import Derived.Test.YtjaklcmadkpmdaaDoorCards
import Derived.Test.YtjaklcmadkpmdaaDoorQuoL
import Derived.Test.YtjaklcmadkpmdaaDoorQuoP
import Derived.Test.YtjaklcmadkpmdaaDoorQuoO
import Derived.SevenTiedAt
namespace Go.Proofs.YtjaklcmadkpmdaaDoor.quotePlain
open Go Go.ChangeShapes Go.WideShapes Go.ChangeAt Go.RowKit

set_option maxRecDepth 100000 in
theorem lifted (os : Os) (started : os.Started) (H : Type) (enc : TypeId × Value → H) :
    ReturnsInHanded {} Tryd.checked os 6 .any (fun w args => (Rows.quotePlainSpec.pre enc Tryd.prog Tryd.f6 [] false w args ∧ laidMetH Tryd.prog laidT w) ∧ sizedMet enc Tryd.prog Tryd.f6 (OpenSpec.ofChange Rows.quotePlainSpec) false w args)
      (Rows.quotePlainSpec.post enc Tryd.prog Tryd.f6 false true false false) := by
  refine law_lifted 6 Tryd.f6 Rows.quotePlainSpec rfl Tryd.func6 (by kernel_rfl) ?_ rfl (by kernel_rfl)
    (ChangeSpec.witness_shaped (enc := enc) (C := Tryd.checked) (os := os) (X := fun w _ => laidMetH Tryd.prog laidT w) false (World.doorLaid Tryd.prog 60 os) #[.string ⟨#[]⟩, .agg #[.int .u64 0, .int .u64 0, .int .u64 0, .int .u64 0]] 8 rfl (World.shaped_of_RefB (by kernel_rfl) (by kernel_rfl)) (by kernel_rfl) (by kernel_rfl) (by kernel_rfl) (door_met os _)) ?_ started
  · intro H ds hd
    match ds, hd with
    | [d0, d1], _ => rfl
  · intro W base args ds ps hI hval hA hps
    rw [Tryd.params6] at hA hval
    obtain ⟨v0, vs0, d0, ds0, p0, q0, hargs, rfl, rfl, h0, r0⟩ := trodAll_cons hA
    obtain ⟨v1, vs1, d1, ds1, p1, q1, rfl, rfl, rfl, h1, r1⟩ := trodAll_cons r0
    obtain ⟨rfl, rfl, rfl⟩ := trodAll_nil r1
    obtain rfl : args = #[v0, v1] := by cases args; simp_all
    obtain ⟨s, rfl, _⟩ := open_string (hval 0 9 v0 rfl rfl) h0
    obtain ⟨x, hxs, rfl⟩ := open_bytes (hval 1 31 v1 rfl rfl) h1
    exact plain_walk s x hxs W hI

theorem in_place : (Rows.quotePlainRow.inPlace == Tryd.prog.inPlace 6) = true := by kernel_rfl
theorem unfollowed : (Rows.quotePlainRow.unfollowed == Tryd.prog.unfollowed 6) = true := by kernel_rfl
theorem recurses : (Rows.quotePlainRow.recurses == Tryd.prog.recurses 6) = true := by kernel_rfl
theorem names_vars : (Rows.quotePlainRow.named == Tryd.prog.varsNamed 6) = true := by kernel_rfl

theorem closed : joinedFacts Tryd.prog 6 Tryd.f6 Rows.quotePlainSpec Rows.quotePlainRow = true := by
  unfold joinedFacts
  rw [in_place, unfollowed, recurses, names_vars]
  kernel_rfl

theorem row_holds : Rows.QuotePlainSaid :=
  OpenClaim.holds_of_wide 6 Tryd.f6 rfl rfl rfl rfl rfl rfl rfl ⟨rfl, rfl, rfl, rfl, rfl⟩ rfl rfl rfl rfl rfl (by kernel_rfl) Tryd.func6 closed
    (of_decide_eq_true (by kernel_rfl)) (by unfold Func.isWrapper; first | (rw [if_pos (by decide +kernel)]; kernel_rfl) | (rw [if_neg (by decide +kernel)]; exact ⟨rfl, rfl⟩))
    (fun os started H enc _ => lifted os started H enc)

theorem by_text : Rows.quotePlainRow.wfByText (OpenSpec.ofChange Rows.quotePlainSpec) = true := by kernel_rfl
theorem main_is : Tryd.prog.mainIs = some (Rows.quotePlainCard.stood.harness.1, Rows.quotePlainCard.stood.harness.2.toList) := by kernel_rfl
theorem no_looks : false = Tryd.prog.looks [] := by kernel_rfl
theorem no_goes : false = Rows.quotePlainRow.goesBy Tryd.prog := by kernel_rfl

theorem proved : Rows.QuotePlainCardSaid :=
  Claim7.holds_tied_plain_at .later [] [.data] true Rows.quotePlainCard.stood.harness false
    row_holds (fun _ h => by cases h) by_text (fun _ h => by cases h) quotePlain_row_tie rfl ⟨rfl, rfl⟩ main_is rfl
    (fun f fn hf hfn => by
      obtain rfl : f = 6 := Option.some.inj ((show Tryd.prog.funcNamed "bonsai/bonsailaw03.QuotePlain" = some 6 by kernel_rfl).symm.trans hf) |>.symm
      obtain rfl : fn = Tryd.f6 := (Option.some.inj (Tryd.func6.symm.trans hfn)).symm
      exact ⟨no_looks, fun j t ht => by
        rw [Tryd.params6] at ht
        have hm := Array.mem_of_getElem? ht
        have hall : ([9, 31].all fun u => !Tryd.prog.wantsStandIn u) = true := by kernel_rfl
        exact (show Tryd.prog.wantsStandIn t = false by simpa using List.all_eq_true.1 hall t (by simpa using hm))⟩)
    no_goes
end Go.Proofs.YtjaklcmadkpmdaaDoor.quotePlain
