/- A set that came in. -/
import Derived.Test.YtjaklcmadkpmdaaDoorQuoL
import Derived.Test.YtjaklcmadkpmdaaDoorSetW
namespace Go.Proofs.YtjaklcmadkpmdaaDoor
open Go Go.ChangeShapes Go.WideShapes Go.ChangeAt Go.RowKit

/-- A set that came in: four words. -/
theorem open_bytes {H : Type} {enc : TypeId × Value → H} {W : World} {base : Nat} {v : Value} {d : DataW H} {p : List MemPlace} (hv : Value.okWide Tryd.prog W .any base 31 v) (h : DataW.Trod enc Tryd.prog W 0 (fun _ => true) true 31 v d p) :
    ∃ s : S4, s.ok ∧ v = s.v := by
  unfold Value.okWide at hv
  rw [Tryd.underlying31] at hv
  obtain ⟨cs, rfl, hsz, _⟩ := hv
  have c26 : Tryd.prog.cellsOf 31 = 4 := by kernel_rfl
  have c24 : Tryd.prog.cellsOf 29 = 1 := by kernel_rfl
  rw [c26] at hsz
  obtain ⟨fuel, hf⟩ := h
  obtain ⟨xs, m, _, _, _, hn, hel⟩ := DataW.trod_array Tryd.underlying31 hf
  obtain ⟨l⟩ := cs
  match l, hsz with
  | [v0, v1, v2, v3], _ =>
    have key : ∀ (i : Nat) (u : Value), i < 4 → [v0, v1, v2, v3][i]? = some u → ∃ n : Nat, n < 18446744073709551616 ∧ u = .int .u64 n := by
      intro i u hi hu
      have he := hel i hi
      rw [c24] at he
      obtain ⟨y, hy⟩ : ∃ y, xs[i]? = some y := ⟨_, List.getElem?_eq_getElem (by omega)⟩
      rw [hy] at he
      obtain ⟨k, e1, _, hwf⟩ := DataW.trod_int Tryd.underlying29 he
      have hb := bounds_u64 hwf
      obtain ⟨n, rfl⟩ := Int.eq_ofNat_of_zero_le hb.1
      refine ⟨n, by omega, ?_⟩
      simp only [Nat.mul_one] at e1
      have e2 : (([v0, v1, v2, v3].drop i).take 1) = [u] := by
        rw [List.drop_eq_getElem_cons (by simpa using hi)]
        have : [v0, v1, v2, v3][i]'(by simpa using hi) = u := by
          rw [List.getElem?_eq_getElem (by simpa using hi)] at hu
          exact Option.some.inj hu
        rw [this]; rfl
      have e1 : (([v0, v1, v2, v3].drop i).take 1) = [.int .u64 (n : Int)] := e1
      rw [e2] at e1
      simpa using e1
    obtain ⟨n0, h0, rfl⟩ := key 0 v0 (by omega) rfl
    obtain ⟨n1, h1, rfl⟩ := key 1 v1 (by omega) rfl
    obtain ⟨n2, h2, rfl⟩ := key 2 v2 (by omega) rfl
    obtain ⟨n3, h3, rfl⟩ := key 3 v3 (by omega) rfl
    exact ⟨⟨n0, n1, n2, n3⟩, ⟨h0, h1, h2, h3⟩, rfl⟩

end Go.Proofs.YtjaklcmadkpmdaaDoor
