/- SetOrder: for every three sets the statement answers yes, and the sets read as before; the table of trailing zeros lies as its own initialiser lays it. -/
import Derived.Test.YtdingmbijglihaaDoorCards
import Derived.Test.YtdingmbijglihaaDoorSetL
import Derived.Test.YtdingmbijglihaaDoorSetO
import Derived.SevenTiedAt
namespace Go.Proofs.YtdingmbijglihaaDoor.setOrder
open Go Go.ChangeShapes Go.WideShapes Go.ChangeAt Go.RowKit

set_option maxRecDepth 100000 in
theorem lifted (os : Os) (started : os.Started) (H : Type) (enc : TypeId × Value → H) :
    ReturnsInHanded {} Tryd.checked os 8 .any (fun w args => (Rows.setOrderSpec.pre enc Tryd.prog Tryd.f8 [] false w args ∧ laidMetH Tryd.prog laidT w) ∧ sizedMet enc Tryd.prog Tryd.f8 (OpenSpec.ofChange Rows.setOrderSpec) false w args)
      (Rows.setOrderSpec.post enc Tryd.prog Tryd.f8 false true false false) := by
  refine law_lifted 8 Tryd.f8 Rows.setOrderSpec rfl Tryd.func8 (by kernel_rfl) ?_ rfl (by kernel_rfl)
    (fun os H enc => ChangeSpec.witness_shaped (enc := enc) (C := Tryd.checked) (os := os) (X := fun w _ => laidMetH Tryd.prog laidT w) false (World.doorLaid Tryd.prog 14 os) #[S4.nil.v, S4.nil.v, S4.nil.v] 8 rfl (World.shaped_of_RefB (by kernel_rfl) (by kernel_rfl)) (by kernel_rfl) (by kernel_rfl) (by kernel_rfl) (door_met os _)) ?_ os started H enc
  · intro H ds hd
    match ds, hd with
    | [d0, d1, d2], _ => rfl
  · intro H enc W base args ds ps hT hval hA
    rw [Tryd.params8] at hA hval
    obtain ⟨v0, vs0, d0, ds0, p0, q0, hargs, rfl, rfl, h0, r0⟩ := trodAll_cons hA
    obtain ⟨v1, vs1, d1, ds1, p1, q1, rfl, rfl, rfl, h1, r1⟩ := trodAll_cons r0
    obtain ⟨v2, vs2, d2, ds2, p2, q2, rfl, rfl, rfl, h2, r2⟩ := trodAll_cons r1
    obtain ⟨rfl, rfl, rfl⟩ := trodAll_nil r2
    obtain rfl : args = #[v0, v1, v2] := by cases args; simp_all
    obtain ⟨x0, hx0, rfl⟩ := open_bytes (hval 0 26 v0 rfl rfl) h0
    obtain ⟨x1, hx1, rfl⟩ := open_bytes (hval 1 26 v1 rfl rfl) h1
    obtain ⟨x2, hx2, rfl⟩ := open_bytes (hval 2 26 v2 rfl rfl) h2
    exact order_walk x0 x1 x2 hx0 hx1 hx2 W hT

theorem row_holds : Rows.SetOrderSaid :=
  OpenClaim.holds_of_wide 8 Tryd.f8 rfl rfl rfl rfl rfl rfl rfl ⟨rfl, rfl, rfl, rfl, rfl⟩ rfl rfl rfl rfl rfl (by kernel_rfl) Tryd.func8 (by kernel_rfl)
    (of_decide_eq_true (by kernel_rfl)) (by unfold Func.isWrapper; first | (rw [if_pos (by decide +kernel)]; kernel_rfl) | (rw [if_neg (by decide +kernel)]; exact ⟨rfl, rfl⟩))
    (fun os started H enc _ => lifted os started H enc)

theorem proved : Rows.SetOrderCardSaid :=
  Claim7.holds_tied_plain_at .later [] [.data] true Rows.setOrderCard.stood.harness false
    row_holds (fun _ h => by cases h) (by kernel_rfl) (fun _ h => by cases h) setOrder_row_tie rfl ⟨rfl, rfl⟩ (by kernel_rfl) rfl
    (fun f fn hf hfn => by
      obtain rfl : f = 8 := Option.some.inj ((show Tryd.prog.funcNamed "bonsai/bonsailaw01.SetOrder" = some 8 by kernel_rfl).symm.trans hf) |>.symm
      obtain rfl : fn = Tryd.f8 := (Option.some.inj (Tryd.func8.symm.trans hfn)).symm
      exact ⟨by kernel_rfl, fun j t ht => by
        rw [Tryd.params8] at ht
        have hm := Array.mem_of_getElem? ht
        have hall : ([26, 26, 26].all fun u => !Tryd.prog.wantsStandIn u) = true := by kernel_rfl
        exact (show Tryd.prog.wantsStandIn t = false by simpa using List.all_eq_true.1 hall t (by simpa using hm))⟩)
    (by kernel_rfl)
end Go.Proofs.YtdingmbijglihaaDoor.setOrder
