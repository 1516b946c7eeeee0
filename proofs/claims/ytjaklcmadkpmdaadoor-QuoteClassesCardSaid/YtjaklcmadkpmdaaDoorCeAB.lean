/- The same, of a world in which what was there stands. -/
import Derived.Test.YtjaklcmadkpmdaaDoorCeAA
noncomputable section
namespace Go.CE
open Go Go.RowKit

/-- A call without arguments, behind whatever left what was there as it was. -/
theorem call_true_at {P : Program} {laid : List (String × DataW Unit)} {W0 W : World} (hS : W0.ShapedOpen P) (hL : laidMet P laid W0) (hle : W0.heap.size ≤ W.heap.size) (hsame : ∀ b, b < W0.heap.size → W.heap[b]? = W0.heap[b]?) (hcap : Nat.ble (glb P) (capN hd) = true) (hlast : glb P = 0 ∨ (tyAt P (glb P - 1)).isSome = true) {lf n f : Nat}
    (h : isTrue (runAt P lf n f (obsOf P laid)) = true) : Calls P f #[] W fun e W' => e = .returned (.bool true) ∧ Below W.heap.size W W' := by
  have hcap := ble_iff.1 hcap
  have hsz0 : glb P ≤ W0.heap.size := by
    rcases hlast with h0 | h0
    · omega
    · rcases Nat.eq_zero_or_pos (glb P) with h1 | h1
      · omega
      · unfold tyAt at h0
        cases hr : ((begin P (fun _ _ => 0) default).world.heap[glb P - 1]?).bind Obj.row? with
        | none => rw [hr] at h0; cases h0
        | some q =>
          obtain ⟨zero, el⟩ := q
          obtain ⟨cs', hcs, _, _⟩ := hS.1 (glb P - 1) zero el (show glb P - 1 < P.globals.size by unfold glb at *; omega) hr
          have := (Array.getElem?_eq_some_iff.1 hcs).1
          omega
  have hsz : glb P ≤ W.heap.size := Nat.le_trans hsz0 hle
  obtain ⟨m', hr⟩ := isTrue_ok h
  unfold runAt at hr
  obtain ⟨H, h1, h2⟩ := bld_ok Ob.dead hd (obsOf P laid) (fun H _ => (lowN P lf n).call f [] ⟨H, glb P, inf, inf, []⟩)
  rw [h1] at hr
  have hlen : (obsOf P laid).length = glb P := by simp [obsOf]
  have hob : ∀ g, g < glb P → obj H g = obOf P laid g := fun g hg => by
    have := h2 g (by omega)
    show (getN hd g).f H = _
    rw [this, List.getD_eq_getElem?_getD]
    unfold obsOf
    rw [List.getElem?_map, List.getElem?_range hg]; rfl
  have hρ : ∀ id s, ρG P id = some s → id < glb P ∧ s = ⟨id, 0, 0⟩ := fun id s hs => by
    unfold ρG at hs
    split at hs
    · cases hs; exact ⟨by assumption, rfl⟩
    · cases hs
  have hw : WF P (⟨H, glb P, inf, inf, []⟩ : M) := ⟨Nat.le_refl _, hcap, fun id hid hc => by
    have hid : glb P ≤ id := hid
    have := h2 id hc
    show (getN hd id).f H = _
    rw [this, List.getD_eq_getElem?_getD, List.getElem?_eq_none (by omega)]; rfl⟩
  have hrel : Rel P W.heap.size (fun _ => True) (ρG P) H W := by
    refine ⟨hsz, Nat.le_refl _, fun id s hs => ?_, fun id s hs => ?_, fun g hg => if_pos hg, fun id s hs hg => ?_, fun id id' s s' _ _ hg hg' hs => ?_, fun id s hs _ => ?_⟩
    · have := hρ id s hs; omega
    · obtain ⟨a, rfl⟩ := hρ id s hs
      show id < W.heap.size
      omega
    · have := hρ id s hs; omega
    · have := hρ id s hs; omega
    · obtain ⟨a, rfl⟩ := hρ id s hs
      rw [hob id a]
      show OR _ _ _ W.heap[id]?
      rw [hsame id (by omega)]
      exact obOf_ok hS hL a _
  have hf : Fresh (ρG P) (⟨H, glb P, inf, inf, []⟩ : M) m' := fun id hid _ => if_neg (by have hid : glb P ≤ id := hid; omega)
  have hlow := lowN_ok (den_ok P) lf n
  have hc := hlow.call f [] ⟨H, glb P, inf, inf, []⟩ _ m' hr rfl W.heap.size (fun _ => True) (ρG P) W [] hw (fun _ _ => trivial) hrel hf trivial 0
  refine (callsIn_wide.1 hc).mono fun e W' => ?_
  rintro ⟨x, ρ', rfl, hran⟩
  have hx : x = .bool true := hran.val
  refine ⟨by rw [hx], ⟨hran.post.os, hran.post.tape, hran.post.out, hran.post.size, fun b hb => hran.post.frame b hb fun id s hs hg => ?_⟩⟩
  have := hρ id s hs; omega

end Go.CE
