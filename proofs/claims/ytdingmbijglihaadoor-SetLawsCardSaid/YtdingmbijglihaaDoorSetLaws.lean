/- SetLaws: for every two sets, every byte and every text the statement answers yes, and what came in reads as before; the table of trailing zeros lies as its own initialiser lays it. -/
import Derived.Test.YtdingmbijglihaaDoorCards
import Derived.Test.YtdingmbijglihaaDoorSetL
import Derived.Test.YtdingmbijglihaaDoorSetG0
import Derived.Test.YtdingmbijglihaaDoorSetG1
import Derived.Test.YtdingmbijglihaaDoorSetG2
import Derived.Test.YtdingmbijglihaaDoorSetG3
import Derived.SevenTiedAt
namespace Go.Proofs.YtdingmbijglihaaDoor.setLaws
open Go Go.ChangeShapes Go.WideShapes Go.ChangeAt Go.RowKit

theorem laws_all (x y : S4) (hx : x.ok) (hy : y.ok) (b : Nat) (hb : b < 256) (s : ByteArray) (_ : s.size ≤ maxLen) (w : World) (hT : Tab w) :
    Calls Tryd.prog 6 #[x.v, y.v, .int .u8 b, .string s] w fun e w' => e = .returned (.bool true) ∧ Below w.heap.size w w' := by
  by_cases hs : 5000 < s.size
  · exact laws_long x y b s hs w hT
  · cases hp : x.has b <;> cases hq : y.has b
    · exact laws_short0 x y hx hy b hb s (by omega) w hT hp hq
    · exact laws_short1 x y hx hy b hb s (by omega) w hT hp hq
    · exact laws_short2 x y hx hy b hb s (by omega) w hT hp hq
    · exact laws_short3 x y hx hy b hb s (by omega) w hT hp hq

set_option maxRecDepth 100000 in
theorem lifted (os : Os) (started : os.Started) (H : Type) (enc : TypeId × Value → H) :
    ReturnsInHanded {} Tryd.checked os 6 .any (fun w args => (Rows.setLawsSpec.pre enc Tryd.prog Tryd.f6 [] false w args ∧ laidMetH Tryd.prog laidT w) ∧ sizedMet enc Tryd.prog Tryd.f6 (OpenSpec.ofChange Rows.setLawsSpec) false w args)
      (Rows.setLawsSpec.post enc Tryd.prog Tryd.f6 false true false false) := by
  refine law_lifted 6 Tryd.f6 Rows.setLawsSpec rfl Tryd.func6 (by kernel_rfl) ?_ rfl (by kernel_rfl)
    (fun os H enc => ChangeSpec.witness_shaped (enc := enc) (C := Tryd.checked) (os := os) (X := fun w _ => laidMetH Tryd.prog laidT w) false (World.doorLaid Tryd.prog 14 os) #[S4.nil.v, S4.nil.v, .int .u8 0, .string ⟨#[]⟩] 8 rfl (World.shaped_of_RefB (by kernel_rfl) (by kernel_rfl)) (by kernel_rfl) (by kernel_rfl) (by kernel_rfl) (door_met os _)) ?_ os started H enc
  · intro H ds hd
    match ds, hd with
    | [d0, d1, d2, d3], _ => rfl
  · intro H enc W base args ds ps hT hval hA
    rw [Tryd.params6] at hA hval
    obtain ⟨v0, vs0, d0, ds0, p0, q0, hargs, rfl, rfl, h0, r0⟩ := trodAll_cons hA
    obtain ⟨v1, vs1, d1, ds1, p1, q1, rfl, rfl, rfl, h1, r1⟩ := trodAll_cons r0
    obtain ⟨v2, vs2, d2, ds2, p2, q2, rfl, rfl, rfl, h2, r2⟩ := trodAll_cons r1
    obtain ⟨v3, vs3, d3, ds3, p3, q3, rfl, rfl, rfl, h3, r3⟩ := trodAll_cons r2
    obtain ⟨rfl, rfl, rfl⟩ := trodAll_nil r3
    obtain rfl : args = #[v0, v1, v2, v3] := by cases args; simp_all
    obtain ⟨x0, hx0, rfl⟩ := open_bytes (hval 0 26 v0 rfl rfl) h0
    obtain ⟨x1, hx1, rfl⟩ := open_bytes (hval 1 26 v1 rfl rfl) h1
    obtain ⟨b2, rfl, rfl, rfl, w2⟩ := open_int Tryd.underlying5 (hval 2 5 v2 rfl rfl) h2
    have hb2 := bounds_u8 w2
    obtain ⟨x2, rfl⟩ := Int.eq_ofNat_of_zero_le hb2.1
    have hx2 : x2 < 256 := by omega
    obtain ⟨x3, rfl, rfl, rfl, hx3⟩ := Go.ChangeMaps.open_string Tryd.underlying9 (hval 3 9 v3 rfl rfl) h3
    exact laws_all x0 x1 hx0 hx1 x2 (by omega) x3 hx3 W hT

theorem row_holds : Rows.SetLawsSaid :=
  OpenClaim.holds_of_wide 6 Tryd.f6 rfl rfl rfl rfl rfl rfl rfl ⟨rfl, rfl, rfl, rfl, rfl⟩ rfl rfl rfl rfl rfl (by kernel_rfl) Tryd.func6 (by kernel_rfl)
    (of_decide_eq_true (by kernel_rfl)) (by unfold Func.isWrapper; first | (rw [if_pos (by decide +kernel)]; kernel_rfl) | (rw [if_neg (by decide +kernel)]; exact ⟨rfl, rfl⟩))
    (fun os started H enc _ => lifted os started H enc)

theorem proved : Rows.SetLawsCardSaid :=
  Claim7.holds_tied_plain_at .later [] [.data] true Rows.setLawsCard.stood.harness false
    row_holds (fun _ h => by cases h) (by kernel_rfl) (fun _ h => by cases h) setLaws_row_tie rfl ⟨rfl, rfl⟩ (by kernel_rfl) rfl
    (fun f fn hf hfn => by
      obtain rfl : f = 6 := Option.some.inj ((show Tryd.prog.funcNamed "bonsai/bonsailaw01.SetLaws" = some 6 by kernel_rfl).symm.trans hf) |>.symm
      obtain rfl : fn = Tryd.f6 := (Option.some.inj (Tryd.func6.symm.trans hfn)).symm
      exact ⟨by kernel_rfl, fun j t ht => by
        rw [Tryd.params6] at ht
        have hm := Array.mem_of_getElem? ht
        have hall : ([26, 26, 5, 9].all fun u => !Tryd.prog.wantsStandIn u) = true := by kernel_rfl
        exact (show Tryd.prog.wantsStandIn t = false by simpa using List.all_eq_true.1 hall t (by simpa using hm))⟩)
    (by kernel_rfl)
end Go.Proofs.YtdingmbijglihaaDoor.setLaws
