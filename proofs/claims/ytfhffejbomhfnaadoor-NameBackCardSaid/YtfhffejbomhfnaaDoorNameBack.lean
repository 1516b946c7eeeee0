/- NameBack: whatever the input, the statement answers yes, and the input reads as before; the listed variables lie as their own initialisers lay them. -/
import Derived.Test.YtfhffejbomhfnaaDoorCards
import Derived.Test.YtfhffejbomhfnaaDoorNamL
import Derived.Test.YtfhffejbomhfnaaDoorNamB
import Derived.SevenTiedAt
namespace Go.Proofs.YtfhffejbomhfnaaDoor.nameBack
open Go Go.ChangeShapes Go.WideShapes Go.ChangeAt Go.RowKit

set_option maxRecDepth 100000 in
theorem lifted (os : Os) (started : os.Started) (H : Type) (enc : TypeId × Value → H) :
    ReturnsInHanded {} Tryd.checked os 5 .any (fun w args => (Rows.nameBackSpec.pre enc Tryd.prog Tryd.f5 [] false w args ∧ laidMetH Tryd.prog laidT w) ∧ sizedMet enc Tryd.prog Tryd.f5 (OpenSpec.ofChange Rows.nameBackSpec) false w args)
      (Rows.nameBackSpec.post enc Tryd.prog Tryd.f5 false true false false) := by
  refine law_lifted 5 Tryd.f5 Rows.nameBackSpec rfl Tryd.func5 (by kernel_rfl) ?_ rfl (by kernel_rfl)
    (ChangeSpec.witness_shaped (enc := enc) (C := Tryd.checked) (os := os) (X := fun w _ => laidMetH Tryd.prog laidT w) false (World.doorLaid Tryd.prog 60 os) #[.int .i64 0, .int .i64 0, .string ⟨#[]⟩] 8 rfl (World.shaped_of_RefB (by kernel_rfl) (by kernel_rfl)) (by kernel_rfl) (by kernel_rfl) (by kernel_rfl) (door_met os _)) ?_ started
  · intro H ds hd
    match ds, hd with
    | [d0, d1, d2], _ => rfl
  · intro W base args ds ps hI hval hA hps
    rw [Tryd.params5] at hA hval
    obtain ⟨v0, vs0, d0, ds0, p0, q0, hargs, rfl, rfl, h0, r0⟩ := trodAll_cons hA
    obtain ⟨v1, vs1, d1, ds1, p1, q1, rfl, rfl, rfl, h1, r1⟩ := trodAll_cons r0
    obtain ⟨v2, vs2, d2, ds2, p2, q2, rfl, rfl, rfl, h2, r2⟩ := trodAll_cons r1
    obtain ⟨rfl, rfl, rfl⟩ := trodAll_nil r2
    obtain rfl : args = #[v0, v1, v2] := by cases args; simp_all
    obtain ⟨n, rfl, hna, hnb⟩ := open_int (hval 0 3 v0 rfl rfl) h0
    obtain ⟨m, rfl, hma, hmb⟩ := open_int (hval 1 3 v1 rfl rfl) h1
    obtain ⟨s, rfl, hss⟩ := open_string (hval 2 9 v2 rfl rfl) h2
    exact back_walk n m s hna hnb hma hmb hss W hI

theorem in_place : (Rows.nameBackRow.inPlace == Tryd.prog.inPlace 5) = true := by kernel_rfl
theorem unfollowed : (Rows.nameBackRow.unfollowed == Tryd.prog.unfollowed 5) = true := by kernel_rfl
theorem recurses : (Rows.nameBackRow.recurses == Tryd.prog.recurses 5) = true := by kernel_rfl
theorem names_vars : (Rows.nameBackRow.named == Tryd.prog.varsNamed 5) = true := by kernel_rfl

theorem closed : joinedFacts Tryd.prog 5 Tryd.f5 Rows.nameBackSpec Rows.nameBackRow = true := by
  unfold joinedFacts
  rw [in_place, unfollowed, recurses, names_vars]
  kernel_rfl

theorem row_holds : Rows.NameBackSaid :=
  OpenClaim.holds_of_wide 5 Tryd.f5 rfl rfl rfl rfl rfl rfl rfl ⟨rfl, rfl, rfl, rfl, rfl⟩ rfl rfl rfl rfl rfl (by kernel_rfl) Tryd.func5 closed
    (of_decide_eq_true (by kernel_rfl)) (by unfold Func.isWrapper; first | (rw [if_pos (by decide +kernel)]; kernel_rfl) | (rw [if_neg (by decide +kernel)]; exact ⟨rfl, rfl⟩))
    (fun os started H enc _ => lifted os started H enc)

theorem by_text : Rows.nameBackRow.wfByText (OpenSpec.ofChange Rows.nameBackSpec) = true := by kernel_rfl
theorem main_is : Tryd.prog.mainIs = some (Rows.nameBackCard.stood.harness.1, Rows.nameBackCard.stood.harness.2.toList) := by kernel_rfl
theorem no_looks : false = Tryd.prog.looks [] := by kernel_rfl
theorem no_goes : false = Rows.nameBackRow.goesBy Tryd.prog := by kernel_rfl

theorem proved : Rows.NameBackCardSaid :=
  Claim7.holds_tied_plain_at .later [] [.data, .data, .data] true Rows.nameBackCard.stood.harness false
    row_holds (fun _ h => by cases h) by_text (fun _ h => by cases h) nameBack_row_tie rfl ⟨rfl, rfl⟩ main_is rfl
    (fun f fn hf hfn => by
      obtain rfl : f = 5 := Option.some.inj ((show Tryd.prog.funcNamed "bonsai/bonsailaw02.NameBack" = some 5 by kernel_rfl).symm.trans hf) |>.symm
      obtain rfl : fn = Tryd.f5 := (Option.some.inj (Tryd.func5.symm.trans hfn)).symm
      exact ⟨no_looks, fun j t ht => by
        rw [Tryd.params5] at ht
        have hm := Array.mem_of_getElem? ht
        have hall : ([3, 3, 9].all fun u => !Tryd.prog.wantsStandIn u) = true := by kernel_rfl
        exact (show Tryd.prog.wantsStandIn t = false by simpa using List.all_eq_true.1 hall t (by simpa using hm))⟩)
    no_goes
end Go.Proofs.YtfhffejbomhfnaaDoor.nameBack
