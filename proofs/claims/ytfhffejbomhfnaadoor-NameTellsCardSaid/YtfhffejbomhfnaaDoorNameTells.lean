/- NameTells: whatever the input, the statement answers yes, and the input reads as before; the listed variables lie as their own initialisers lay them. -/
import Derived.Test.YtfhffejbomhfnaaDoorCards
import Derived.Test.YtfhffejbomhfnaaDoorNamL
import Derived.Test.YtfhffejbomhfnaaDoorNamC
import Derived.SevenTiedAt
namespace Go.Proofs.YtfhffejbomhfnaaDoor.nameTells
open Go Go.ChangeShapes Go.WideShapes Go.ChangeAt Go.RowKit

set_option maxRecDepth 100000 in
theorem lifted (os : Os) (started : os.Started) (H : Type) (enc : TypeId × Value → H) :
    ReturnsInHanded {} Tryd.checked os 3 .any (fun w args => (Rows.nameTellsSpec.pre enc Tryd.prog Tryd.f3 [] false w args ∧ laidMetH Tryd.prog laidT w) ∧ sizedMet enc Tryd.prog Tryd.f3 (OpenSpec.ofChange Rows.nameTellsSpec) false w args)
      (Rows.nameTellsSpec.post enc Tryd.prog Tryd.f3 false true false false) := by
  refine law_lifted 3 Tryd.f3 Rows.nameTellsSpec rfl Tryd.func3 (by kernel_rfl) ?_ rfl (by kernel_rfl)
    (ChangeSpec.witness_shaped (enc := enc) (C := Tryd.checked) (os := os) (X := fun w _ => laidMetH Tryd.prog laidT w) false (World.doorLaid Tryd.prog 60 os) #[.int .u8 0, .string ⟨#[]⟩, .string ⟨#[]⟩, .int .i64 0, .int .i64 0] 8 rfl (World.shaped_of_RefB (by kernel_rfl) (by kernel_rfl)) (by kernel_rfl) (by kernel_rfl) (by kernel_rfl) (door_met os _)) ?_ started
  · intro H ds hd
    match ds, hd with
    | [d0, d1, d2, d3, d4], _ => rfl
  · intro W base args ds ps hI hval hA hps
    rw [Tryd.params3] at hA hval
    obtain ⟨v0, vs0, d0, ds0, p0, q0, hargs, rfl, rfl, h0, r0⟩ := trodAll_cons hA
    obtain ⟨v1, vs1, d1, ds1, p1, q1, rfl, rfl, rfl, h1, r1⟩ := trodAll_cons r0
    obtain ⟨v2, vs2, d2, ds2, p2, q2, rfl, rfl, rfl, h2, r2⟩ := trodAll_cons r1
    obtain ⟨v3, vs3, d3, ds3, p3, q3, rfl, rfl, rfl, h3, r3⟩ := trodAll_cons r2
    obtain ⟨v4, vs4, d4, ds4, p4, q4, rfl, rfl, rfl, h4, r4⟩ := trodAll_cons r3
    obtain ⟨rfl, rfl, rfl⟩ := trodAll_nil r4
    obtain rfl : args = #[v0, v1, v2, v3, v4] := by cases args; simp_all
    obtain ⟨b, rfl⟩ := open_byte (hval 0 5 v0 rfl rfl) h0
    obtain ⟨s, rfl, hss⟩ := open_string (hval 1 9 v1 rfl rfl) h1
    obtain ⟨t, rfl, _⟩ := open_string (hval 2 9 v2 rfl rfl) h2
    obtain ⟨n, rfl, hna, hnb⟩ := open_int (hval 3 3 v3 rfl rfl) h3
    obtain ⟨m, rfl, hma, hmb⟩ := open_int (hval 4 3 v4 rfl rfl) h4
    exact tells_walk b s t n m hss hna hnb hma hmb W hI

theorem in_place : (Rows.nameTellsRow.inPlace == Tryd.prog.inPlace 3) = true := by kernel_rfl
theorem unfollowed : (Rows.nameTellsRow.unfollowed == Tryd.prog.unfollowed 3) = true := by kernel_rfl
theorem recurses : (Rows.nameTellsRow.recurses == Tryd.prog.recurses 3) = true := by kernel_rfl
theorem names_vars : (Rows.nameTellsRow.named == Tryd.prog.varsNamed 3) = true := by kernel_rfl

theorem closed : joinedFacts Tryd.prog 3 Tryd.f3 Rows.nameTellsSpec Rows.nameTellsRow = true := by
  unfold joinedFacts
  rw [in_place, unfollowed, recurses, names_vars]
  kernel_rfl

theorem row_holds : Rows.NameTellsSaid :=
  OpenClaim.holds_of_wide 3 Tryd.f3 rfl rfl rfl rfl rfl rfl rfl ⟨rfl, rfl, rfl, rfl, rfl⟩ rfl rfl rfl rfl rfl (by kernel_rfl) Tryd.func3 closed
    (of_decide_eq_true (by kernel_rfl)) (by unfold Func.isWrapper; first | (rw [if_pos (by decide +kernel)]; kernel_rfl) | (rw [if_neg (by decide +kernel)]; exact ⟨rfl, rfl⟩))
    (fun os started H enc _ => lifted os started H enc)

theorem by_text : Rows.nameTellsRow.wfByText (OpenSpec.ofChange Rows.nameTellsSpec) = true := by kernel_rfl
theorem main_is : Tryd.prog.mainIs = some (Rows.nameTellsCard.stood.harness.1, Rows.nameTellsCard.stood.harness.2.toList) := by kernel_rfl
theorem no_looks : false = Tryd.prog.looks [] := by kernel_rfl
theorem no_goes : false = Rows.nameTellsRow.goesBy Tryd.prog := by kernel_rfl

theorem proved : Rows.NameTellsCardSaid :=
  Claim7.holds_tied_plain_at .later [] [.data, .data, .data] true Rows.nameTellsCard.stood.harness false
    row_holds (fun _ h => by cases h) by_text (fun _ h => by cases h) nameTells_row_tie rfl ⟨rfl, rfl⟩ main_is rfl
    (fun f fn hf hfn => by
      obtain rfl : f = 3 := Option.some.inj ((show Tryd.prog.funcNamed "bonsai/bonsailaw02.NameTells" = some 3 by kernel_rfl).symm.trans hf) |>.symm
      obtain rfl : fn = Tryd.f3 := (Option.some.inj (Tryd.func3.symm.trans hfn)).symm
      exact ⟨no_looks, fun j t ht => by
        rw [Tryd.params3] at ht
        have hm := Array.mem_of_getElem? ht
        have hall : ([5, 9, 9, 3, 3].all fun u => !Tryd.prog.wantsStandIn u) = true := by kernel_rfl
        exact (show Tryd.prog.wantsStandIn t = false by simpa using List.all_eq_true.1 hall t (by simpa using hm))⟩)
    no_goes
end Go.Proofs.YtfhffejbomhfnaaDoor.nameTells
