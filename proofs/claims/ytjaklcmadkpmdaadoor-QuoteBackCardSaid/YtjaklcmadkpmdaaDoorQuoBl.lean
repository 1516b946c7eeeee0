/- A set that came in. -/
import Derived.Test.YtjaklcmadkpmdaaDoorQuoL
import Derived.Test.YtjaklcmadkpmdaaDoorSetW
section
namespace Go.Proofs.YtjaklcmadkpmdaaDoor
open Go Go.ChangeShapes Go.WideShapes Go.ChangeAt Go.RowKit

/-- A set that came in: four words. -/
theorem open_bytes {H : Type} {enc : TypeId × Value → H} {W : World} {base : Nat} {v : Value} {d : DataW H} {p : List MemPlace} (hv : Value.okWide Tryd.prog W .any base 31 v) (h : DataW.Trod enc Tryd.prog W 0 (fun _ => true) true 31 v d p) :
    ∃ s : S4, s.ok ∧ v = s.v := by
  unfold Value.okWide at hv
  rw [Tryd.underlying31] at hv
  obtain ⟨cs, rfl, hsz, _⟩ := hv
  have c26 : Tryd.prog.cellsOf 31 = 4 := by kernel_rfl
  have c24 : Tryd.prog.cellsOf 29 = 1 := by kernel_rfl
  rw [c26] at hsz
  obtain ⟨fuel, hf⟩ := h
  obtain ⟨xs, m, _, _, _, hn, hel⟩ := DataW.trod_array Tryd.underlying31 hf
  obtain ⟨l⟩ := cs
  match l, hsz with
  | [v0, v1, v2, v3], _ =>
    have key : ∀ (i : Nat) (u : Value), i < 4 → [v0, v1, v2, v3][i]? = some u → ∃ n : Nat, n < 18446744073709551616 ∧ u = .int .u64 n := by
      intro i u hi hu
      have he := hel i hi
      rw [c24] at he
      obtain ⟨y, hy⟩ : ∃ y, xs[i]? = some y := ⟨_, List.getElem?_eq_getElem (by omega)⟩
      rw [hy] at he
      obtain ⟨k, e1, _, hwf⟩ := DataW.trod_int Tryd.underlying29 he
      have hb := bounds_u64 hwf
      obtain ⟨n, rfl⟩ := Int.eq_ofNat_of_zero_le hb.1
      refine ⟨n, by omega, ?_⟩
      simp only [Nat.mul_one] at e1
      have e2 : (([v0, v1, v2, v3].drop i).take 1) = [u] := by
        rw [List.drop_eq_getElem_cons (by simpa using hi)]
        have : [v0, v1, v2, v3][i]'(by simpa using hi) = u := by
          rw [List.getElem?_eq_getElem (by simpa using hi)] at hu
          exact Option.some.inj hu
        rw [this]; rfl
      have e1 : (([v0, v1, v2, v3].drop i).take 1) = [.int .u64 (n : Int)] := e1
      rw [e2] at e1
      simpa using e1
    obtain ⟨n0, h0, rfl⟩ := key 0 v0 (by omega) rfl
    obtain ⟨n1, h1, rfl⟩ := key 1 v1 (by omega) rfl
    obtain ⟨n2, h2, rfl⟩ := key 2 v2 (by omega) rfl
    obtain ⟨n3, h3, rfl⟩ := key 3 v3 (by omega) rfl
    exact ⟨⟨n0, n1, n2, n3⟩, ⟨h0, h1, h2, h3⟩, rfl⟩

end Go.Proofs.YtjaklcmadkpmdaaDoor
end
section
namespace Go.Proofs.YtjaklcmadkpmdaaDoor
open Go Go.ChangeShapes Go.WideShapes Go.ChangeAt Go.RowKit

theorem law_lifted_sized (f : FuncId) (fn : Func) (s : ChangeSpec) (hs : s.vars = []) (hfn : Tryd.prog.funcs[f]? = some fn) (hinit : Tryd.prog.inits.idxOf? f = none)
    (hspec : ∀ (H : Type) (ds : List (DataW H)), ds.length = fn.params.size → s.fn H ds = { results := [.lit (.bool true)], args := ds }) (hres : fn.resultTypes = #[4])
    (hrd : (fn.params.toList.all fun t => Tryd.prog.readableRec t && decide (t < Tryd.prog.types.size)) = true) {os : Os} {H : Type} {enc : TypeId × Value → H}
    (hwit : ∃ (w : World) (tape : Tape) (i : Input), w.os = os ∧ (w.forCall tape i).Shaped Tryd.prog ∧ i.vars = [] ∧ Input.okWide Tryd.prog (w.forCall tape i) .any w.heap.size f i ∧
      ((s.pre enc Tryd.prog fn [] false (w.forCall tape i).memory i.args ∧ laidMetH Tryd.prog laidT (w.forCall tape i).memory) ∧ sizedMet enc Tryd.prog fn (OpenSpec.ofChange s) false (w.forCall tape i).memory i.args) ∧ ({} : Assume).holds Tryd.prog (lone (Frame.enter Tryd.prog f i.args .normal) [] (w.forCall tape i)))
    (walk : ∀ (W : World) (base : Nat) (args : Array Value) (ds : List (DataW H)) (ps : List MemPlace), Inv W → (∀ (j : Nat) t v, fn.params[j]? = some t → args[j]? = some v → Value.okWide Tryd.prog W .any base t v) →
      DataW.TrodAll enc Tryd.prog W 0 (fun _ => true) true fn.params.toList args.toList ds ps → (∀ x ∈ ps, x.block < W.heap.size) → (DataW.weightsEach Tryd.prog fn.params.toList ds).all (· ≤ reachBytes) = true →
      Calls Tryd.prog f args W fun e W' => e = .returned (.bool true) ∧ Below W.heap.size W W')
    (started : os.Started) :
    ReturnsInHanded {} Tryd.checked os f .any (fun w args => (s.pre enc Tryd.prog fn [] false w args ∧ laidMetH Tryd.prog laidT w) ∧ sizedMet enc Tryd.prog fn (OpenSpec.ofChange s) false w args)
      (s.post enc Tryd.prog fn false true false false) := by
  refine returnsInHanded_of_calls own started hinit hwit ?_
  intro w tape i _ hS _ hok hpre _
  obtain ⟨_, _, _, fn', hfn', _, _, _, _, hval⟩ := hok
  have e : fn' = fn := Option.some.inj (hfn'.symm.trans hfn)
  subst e
  obtain ⟨⟨⟨ds, gs, before, hw, _⟩, hL⟩, hsz⟩ := hpre
  have hwt := hsz.weights hw
  have hw' := DataW.Whole.of_heap (w' := w.forCall tape i) (by rfl) hw
  have hL' : laidMetH Tryd.prog laidT (w.forCall tape i) := hL.of_heap (by rfl)
  rw [MakeChecks.laidMetH_plain _ _ _ (by kernel_rfl)] at hL'
  have hw0 := hw'
  obtain ⟨p, q, hA, hV, rfl, _, _⟩ := hw'
  rw [hs] at hV
  obtain ⟨rfl, rfl⟩ := trodVars_none hV
  have hvt : (OpenSpec.ofChange s).bare.plain.varTypes Tryd.prog = [] := by
    show ({ name := s.name, vars := s.vars, fn := fun _ _ => { results := [], args := [] } } : ChangeSpec).plain.varTypes Tryd.prog = []
    rw [hs]
    rfl
  rw [hvt, List.append_nil, List.append_nil] at hwt
  have hlt : ∀ x ∈ p, x.block < (w.forCall tape i).heap.size := fun x hx => hw0.lt x (List.mem_append_left _ hx)
  refine (walk _ w.heap.size i.args ds p ⟨hS, hL'⟩ hval hA hlt hwt).mono fun e W' ⟨he, hb⟩ => ?_
  subst he
  have hlen : (ds ++ []).length = fn'.params.size := by
    rw [List.append_nil]
    exact trodAll_length hA
  refine ChangeSpec.post_blind (post_of_below (pa := p) (pv := []) hw0 (fun _ _ _ => ?_) (fun sp hsp => ?_) (fun _ _ => ?_) rfl hb (ok_one hres rfl (okWide_bool_mk Tryd.underlying4 _)))
  · rw [hspec H _ hlen, hres]
    exact trodAll_mk1 (shut_bool Tryd.underlying4 _)
  · rw [hspec H _ hlen, List.append_nil]
    exact trodAll_stays laidOut hb sp _ _ _ _ hrd hlt (fun x hx => hsp x (List.mem_append_left _ hx)) hA
  · rw [hspec H _ hlen, hs]
    rfl

/-- A text that came in, with what was read of it. -/
theorem open_string2 {H : Type} {enc : TypeId × Value → H} {W : World} {base : Nat} {v : Value} {d : DataW H} {p : List MemPlace} (hv : Value.okWide Tryd.prog W .any base 9 v) (h : DataW.Trod enc Tryd.prog W 0 (fun _ => true) true 9 v d p) : ∃ s : ByteArray, v = .string s ∧ d = .lit (.string s.data.toList) := by
  unfold Value.okWide at hv
  rw [Tryd.underlying9] at hv
  obtain ⟨fuel, hf⟩ := h
  obtain ⟨s, h1, h2, _⟩ := DataW.trod_string Tryd.underlying9 hf
  refine ⟨s, ?_, congrArg Prod.fst h2⟩
  unfold Cell.okWide at hv
  rw [Tryd.underlying9] at hv
  cases v <;> simp only [Value.cells] at h1 hv <;> first
    | (simp at h1; done)
    | (simp at h1; rw [h1]; done)
    | (unfold Cell.ok at hv; rw [Tryd.underlying9] at hv; simp at hv; done)
theorem weight_string {H : Type} {P : Program} {t : TypeId} {ts : List TypeId} {s : ByteArray} {r : List (DataW H)} (h : (DataW.weightsEach P (t :: ts) (.lit (.string s.data.toList) :: r)).all (· ≤ reachBytes) = true) : s.size ≤ 140737488351232 := by
  unfold DataW.weightsEach DataW.weights at h
  rw [List.all_append, Bool.and_eq_true] at h
  have h := h.1
  simp [reachBytes] at h
  exact of_decide_eq_true h
theorem weight_tail {H : Type} {P : Program} {t : TypeId} {ts : List TypeId} {d : DataW H} {r : List (DataW H)} (h : (DataW.weightsEach P (t :: ts) (d :: r)).all (· ≤ reachBytes) = true) : (DataW.weightsEach P ts r).all (· ≤ reachBytes) = true := by
  unfold DataW.weightsEach at h
  rw [List.all_append, Bool.and_eq_true] at h
  exact h.2
end Go.Proofs.YtjaklcmadkpmdaaDoor
end
