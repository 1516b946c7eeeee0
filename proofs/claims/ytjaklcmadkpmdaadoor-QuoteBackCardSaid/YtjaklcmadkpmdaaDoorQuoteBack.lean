/- QuoteBack: whatever the input, the statement answers yes, and the input reads as before; the listed variables lie as their own initialisers lay them. -/
import Derived.Test.YtjaklcmadkpmdaaDoorCards
import Derived.Test.YtjaklcmadkpmdaaDoorQuoL
import Derived.Test.YtjaklcmadkpmdaaDoorQuoBl
import Derived.Test.YtjaklcmadkpmdaaDoorQuoBb
import Derived.SevenTiedAt
namespace Go.Proofs.YtjaklcmadkpmdaaDoor.quoteBack
open Go Go.ChangeShapes Go.WideShapes Go.ChangeAt Go.RowKit

set_option maxRecDepth 100000 in
theorem lifted (os : Os) (started : os.Started) (H : Type) (enc : TypeId × Value → H) :
    ReturnsInHanded {} Tryd.checked os 5 .any (fun w args => (Rows.quoteBackSpec.pre enc Tryd.prog Tryd.f5 [] false w args ∧ laidMetH Tryd.prog laidT w) ∧ sizedMet enc Tryd.prog Tryd.f5 (OpenSpec.ofChange Rows.quoteBackSpec) false w args)
      (Rows.quoteBackSpec.post enc Tryd.prog Tryd.f5 false true false false) := by
  refine law_lifted_sized 5 Tryd.f5 Rows.quoteBackSpec rfl Tryd.func5 (by kernel_rfl) ?_ rfl (by kernel_rfl)
    (ChangeSpec.witness_shaped (enc := enc) (C := Tryd.checked) (os := os) (X := fun w _ => laidMetH Tryd.prog laidT w) false (World.doorLaid Tryd.prog 60 os) #[.string ⟨#[]⟩, .string ⟨#[]⟩, .agg #[.int .u64 0, .int .u64 0, .int .u64 0, .int .u64 0], .string ⟨#[]⟩] 8 rfl (World.shaped_of_RefB (by kernel_rfl) (by kernel_rfl)) (by kernel_rfl) (by kernel_rfl) (by kernel_rfl) (door_met os _)) ?_ started
  · intro H ds hd
    match ds, hd with
    | [d0, d1, d2, d3], _ => rfl
  · intro W base args ds ps hI hval hA hps hz
    rw [Tryd.params5] at hA hval hz
    obtain ⟨v0, vs0, d0, ds0, p0, q0, hargs, rfl, rfl, h0, r0⟩ := trodAll_cons hA
    obtain ⟨v1, vs1, d1, ds1, p1, q1, rfl, rfl, rfl, h1, r1⟩ := trodAll_cons r0
    obtain ⟨v2, vs2, d2, ds2, p2, q2, rfl, rfl, rfl, h2, r2⟩ := trodAll_cons r1
    obtain ⟨v3, vs3, d3, ds3, p3, q3, rfl, rfl, rfl, h3, r3⟩ := trodAll_cons r2
    obtain ⟨rfl, rfl, rfl⟩ := trodAll_nil r3
    obtain rfl : args = #[v0, v1, v2, v3] := by cases args; simp_all
    obtain ⟨s, rfl, rfl⟩ := open_string2 (hval 0 9 v0 rfl rfl) h0
    obtain ⟨u, rfl, rfl⟩ := open_string2 (hval 1 9 v1 rfl rfl) h1
    obtain ⟨x, hxs, rfl⟩ := open_bytes (hval 2 31 v2 rfl rfl) h2
    obtain ⟨t, rfl, rfl⟩ := open_string2 (hval 3 9 v3 rfl rfl) h3
    have z0 := weight_string hz
    have hz1 := weight_tail hz
    have z1 := weight_string hz1
    have z3 := weight_string (weight_tail (weight_tail hz1))
    exact back_walk s u x hxs t z0 z1 z3 W hI

theorem in_place : (Rows.quoteBackRow.inPlace == Tryd.prog.inPlace 5) = true := by kernel_rfl
theorem unfollowed : (Rows.quoteBackRow.unfollowed == Tryd.prog.unfollowed 5) = true := by kernel_rfl
theorem recurses : (Rows.quoteBackRow.recurses == Tryd.prog.recurses 5) = true := by kernel_rfl
theorem names_vars : (Rows.quoteBackRow.named == Tryd.prog.varsNamed 5) = true := by kernel_rfl

theorem closed : joinedFacts Tryd.prog 5 Tryd.f5 Rows.quoteBackSpec Rows.quoteBackRow = true := by
  unfold joinedFacts
  rw [in_place, unfollowed, recurses, names_vars]
  kernel_rfl

theorem row_holds : Rows.QuoteBackSaid :=
  OpenClaim.holds_of_wide 5 Tryd.f5 rfl rfl rfl rfl rfl rfl rfl ⟨rfl, rfl, rfl, rfl, rfl⟩ rfl rfl rfl rfl rfl (by kernel_rfl) Tryd.func5 closed
    (of_decide_eq_true (by kernel_rfl)) (by unfold Func.isWrapper; first | (rw [if_pos (by decide +kernel)]; kernel_rfl) | (rw [if_neg (by decide +kernel)]; exact ⟨rfl, rfl⟩))
    (fun os started H enc _ => lifted os started H enc)

theorem by_text : Rows.quoteBackRow.wfByText (OpenSpec.ofChange Rows.quoteBackSpec) = true := by kernel_rfl
theorem main_is : Tryd.prog.mainIs = some (Rows.quoteBackCard.stood.harness.1, Rows.quoteBackCard.stood.harness.2.toList) := by kernel_rfl
theorem no_looks : false = Tryd.prog.looks [] := by kernel_rfl
theorem no_goes : false = Rows.quoteBackRow.goesBy Tryd.prog := by kernel_rfl

theorem proved : Rows.QuoteBackCardSaid :=
  Claim7.holds_tied_plain_at .later [] [.data] true Rows.quoteBackCard.stood.harness false
    row_holds (fun _ h => by cases h) by_text (fun _ h => by cases h) quoteBack_row_tie rfl ⟨rfl, rfl⟩ main_is rfl
    (fun f fn hf hfn => by
      obtain rfl : f = 5 := Option.some.inj ((show Tryd.prog.funcNamed "bonsai/bonsailaw03.QuoteBack" = some 5 by kernel_rfl).symm.trans hf) |>.symm
      obtain rfl : fn = Tryd.f5 := (Option.some.inj (Tryd.func5.symm.trans hfn)).symm
      exact ⟨no_looks, fun j t ht => by
        rw [Tryd.params5] at ht
        have hm := Array.mem_of_getElem? ht
        have hall : ([9, 9, 31, 9].all fun u => !Tryd.prog.wantsStandIn u) = true := by kernel_rfl
        exact (show Tryd.prog.wantsStandIn t = false by simpa using List.all_eq_true.1 hall t (by simpa using hm))⟩)
    no_goes
end Go.Proofs.YtjaklcmadkpmdaaDoor.quoteBack
