/- NameRow: whatever the input, the statement answers yes, and the input reads as before; the listed variables lie as their own initialisers lay them. -/
import Derived.Test.YtfhffejbomhfnaaDoorCards
import Derived.Test.YtfhffejbomhfnaaDoorNamL
import Derived.Test.YtfhffejbomhfnaaDoorNamR1
import Derived.SevenTiedAt
namespace Go.Proofs.YtfhffejbomhfnaaDoor.nameRow
open Go Go.ChangeShapes Go.WideShapes Go.ChangeAt Go.RowKit

set_option maxRecDepth 100000 in
theorem lifted (os : Os) (started : os.Started) (H : Type) (enc : TypeId × Value → H) :
    ReturnsInHanded {} Tryd.checked os 7 .any (fun w args => (Rows.nameRowSpec.pre enc Tryd.prog Tryd.f7 [] false w args ∧ laidMetH Tryd.prog laidT w) ∧ sizedMet enc Tryd.prog Tryd.f7 (OpenSpec.ofChange Rows.nameRowSpec) false w args)
      (Rows.nameRowSpec.post enc Tryd.prog Tryd.f7 false true false false) := by
  refine law_lifted 7 Tryd.f7 Rows.nameRowSpec rfl Tryd.func7 (by kernel_rfl) ?_ rfl (by kernel_rfl)
    (ChangeSpec.witness_shaped (enc := enc) (C := Tryd.checked) (os := os) (X := fun w _ => laidMetH Tryd.prog laidT w) false (World.doorLaid Tryd.prog 60 os) #[.string ⟨#[]⟩, .string ⟨#[]⟩, .string ⟨#[]⟩] 8 rfl (World.shaped_of_RefB (by kernel_rfl) (by kernel_rfl)) (by kernel_rfl) (by kernel_rfl) (by kernel_rfl) (door_met os _)) ?_ started
  · intro H ds hd
    match ds, hd with
    | [d0, d1, d2], _ => rfl
  · intro W base args ds ps hI hval hA hps
    rw [Tryd.params7] at hA hval
    obtain ⟨v0, vs0, d0, ds0, p0, q0, hargs, rfl, rfl, h0, r0⟩ := trodAll_cons hA
    obtain ⟨v1, vs1, d1, ds1, p1, q1, rfl, rfl, rfl, h1, r1⟩ := trodAll_cons r0
    obtain ⟨v2, vs2, d2, ds2, p2, q2, rfl, rfl, rfl, h2, r2⟩ := trodAll_cons r1
    obtain ⟨rfl, rfl, rfl⟩ := trodAll_nil r2
    obtain rfl : args = #[v0, v1, v2] := by cases args; simp_all
    obtain ⟨a, rfl, _⟩ := open_string (hval 0 9 v0 rfl rfl) h0
    obtain ⟨b, rfl, _⟩ := open_string (hval 1 9 v1 rfl rfl) h1
    obtain ⟨c, rfl, _⟩ := open_string (hval 2 9 v2 rfl rfl) h2
    exact row_walk a b c W hI

theorem in_place : (Rows.nameRowRow.inPlace == Tryd.prog.inPlace 7) = true := by kernel_rfl
theorem unfollowed : (Rows.nameRowRow.unfollowed == Tryd.prog.unfollowed 7) = true := by kernel_rfl
theorem recurses : (Rows.nameRowRow.recurses == Tryd.prog.recurses 7) = true := by kernel_rfl
theorem names_vars : (Rows.nameRowRow.named == Tryd.prog.varsNamed 7) = true := by kernel_rfl

theorem closed : joinedFacts Tryd.prog 7 Tryd.f7 Rows.nameRowSpec Rows.nameRowRow = true := by
  unfold joinedFacts
  rw [in_place, unfollowed, recurses, names_vars]
  kernel_rfl

theorem row_holds : Rows.NameRowSaid :=
  OpenClaim.holds_of_wide 7 Tryd.f7 rfl rfl rfl rfl rfl rfl rfl ⟨rfl, rfl, rfl, rfl, rfl⟩ rfl rfl rfl rfl rfl (by kernel_rfl) Tryd.func7 closed
    (of_decide_eq_true (by kernel_rfl)) (by unfold Func.isWrapper; first | (rw [if_pos (by decide +kernel)]; kernel_rfl) | (rw [if_neg (by decide +kernel)]; exact ⟨rfl, rfl⟩))
    (fun os started H enc _ => lifted os started H enc)

theorem proved : Rows.NameRowCardSaid :=
  Claim7.holds_tied_plain_at .later [] [.data, .data, .data] true Rows.nameRowCard.stood.harness false
    row_holds (fun _ h => by cases h) (by kernel_rfl) (fun _ h => by cases h) nameRow_row_tie rfl ⟨rfl, rfl⟩ (by kernel_rfl) rfl
    (fun f fn hf hfn => by
      obtain rfl : f = 7 := Option.some.inj ((show Tryd.prog.funcNamed "bonsai/bonsailaw02.NameRow" = some 7 by kernel_rfl).symm.trans hf) |>.symm
      obtain rfl : fn = Tryd.f7 := (Option.some.inj (Tryd.func7.symm.trans hfn)).symm
      exact ⟨by kernel_rfl, fun j t ht => by
        rw [Tryd.params7] at ht
        have hm := Array.mem_of_getElem? ht
        have hall : ([9, 9, 9].all fun u => !Tryd.prog.wantsStandIn u) = true := by kernel_rfl
        exact (show Tryd.prog.wantsStandIn t = false by simpa using List.all_eq_true.1 hall t (by simpa using hm))⟩)
    (by kernel_rfl)
end Go.Proofs.YtfhffejbomhfnaaDoor.nameRow
