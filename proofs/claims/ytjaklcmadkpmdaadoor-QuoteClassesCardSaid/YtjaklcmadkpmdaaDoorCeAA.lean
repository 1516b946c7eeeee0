/- From what the kernel works out to what a call does, whatever the world. No program is named. -/
import Derived.Test.YtjaklcmadkpmdaaDoorCeZ
import Derived.OpenShut
import Derived.ChangeArms
import Derived.Below
import GoSem.ClaimJoined
noncomputable section
namespace Go.CE
open Go Go.RowKit

/-! ### What a variable holds -/

def cellsF (f : TypeId → DataW Unit → Option (List CV)) : List (TypeId × DataW Unit) → Option (List (List CV))
  | [] => some []
  | (t, d) :: r => match f t d, cellsF f r with
    | some c, some l => some (c :: l)
    | _, _ => none

/-- Each part of the size that is asked. -/
def sizesOk : List (List CV) → List Nat → Bool
  | [], [] => true
  | c :: l, n :: ns => (c.length == n) && sizesOk l ns
  | _, _ => false

/-- Each offset is where the parts ahead of it end. -/
def offsOk : List Nat → List Nat → Nat → Bool
  | [], [], _ => true
  | o :: os, n :: ns, at_ => (o == at_) && offsOk os ns (at_ + n)
  | _, _, _ => false

def sum : List Nat → Nat
  | [] => 0
  | n :: r => n + sum r

def partsD (P : Program) (f : TypeId → DataW Unit → Option (List CV)) (t : TypeId) (ts os ns : List Nat) (l : List (DataW Unit)) : Option (List CV) :=
  match cellsF f (ts.zip l) with
  | some cs => if l.length == ts.length && sizesOk cs ns && offsOk os ns 0 && (P.cellsOf t == sum ns) then some cs.flatten else none
  | none => none

/-- The cells of a datum that holds no address. -/
def cellsD (P : Program) : Nat → TypeId → DataW Unit → Option (List CV)
  | 0, _, _ => none
  | k + 1, t, d => match P.underlying t, d with
    | some (.int _), .lit (.int k' n) => some [.int k' n]
    | some .bool, .lit (.bool b) => some [.bool b]
    | some .string, .lit (.string s) => some [.str (s.map UInt8.toNat)]
    | some (.array n e), .agg l => partsD P (cellsD P k) t (List.replicate n e) ((List.range n).map fun i => i * P.cellsOf e) (List.replicate n (P.cellsOf e)) l
    | some (.struct fs), .agg l => partsD P (cellsD P k) t (fs.toList.map (·.type)) (fs.toList.map (·.offset)) (fs.toList.map fun f => P.cellsOf f.type) l
    | _, _ => none

theorem flatCells_ok {ρ : Rho} : ∀ (cs : List (List CV)) (os ns : List Nat) (at_ : Nat) (vs : List Value), sizesOk cs ns = true → offsOk os ns at_ = true →
    (∀ (i : Nat) (c : List CV) (o n : Nat), cs[i]? = some c → os[i]? = some o → ns[i]? = some n → All2 (CR ρ) c ((vs.drop o).take n)) → All2 (CR ρ) cs.flatten ((vs.drop at_).take (sum ns))
  | [], os, [], at_, vs, _, _, _ => by
    show All2 (CR ρ) [] ((vs.drop at_).take 0)
    rw [List.take_zero]; trivial
  | c :: cs, o :: os, n :: ns, at_, vs, h1, h2, h3 => by
    simp only [sizesOk, offsOk, Bool.and_eq_true, beq_iff_eq] at h1 h2
    obtain ⟨hc, h1⟩ := h1
    obtain ⟨rfl, h2⟩ := h2
    have ih := flatCells_ok (ρ := ρ) cs os ns (o + n) vs h1 h2 fun i c' o' n' a b d => h3 (i + 1) c' o' n' (by simpa using a) (by simpa using b) (by simpa using d)
    have h0 := h3 0 c o n rfl rfl rfl
    show All2 (CR ρ) (c ++ cs.flatten) ((vs.drop o).take (n + sum ns))
    rw [List.take_add, List.drop_drop]
    exact h0.append ih
  | _ :: _, _, [], _, _, h, _, _ => by cases h
  | [], _, _ :: _, _, _, h, _, _ => by cases h
  | _ :: _, [], _ :: _, _, _, _, h, _ => by cases h

theorem cellsF_get {f : TypeId → DataW Unit → Option (List CV)} : ∀ {l : List (TypeId × DataW Unit)} {cs : List (List CV)}, cellsF f l = some cs → ∀ (i : Nat) (c : List CV), cs[i]? = some c → ∃ t d, l[i]? = some (t, d) ∧ f t d = some c
  | [], cs, h, i, c, hi => by
    simp only [cellsF] at h
    cases h; simp at hi
  | (t, d) :: r, cs, h, i, c, hi => by
    simp only [cellsF] at h
    split at h
    · rename_i c0 l h1 h2
      cases h
      cases i with
      | zero =>
        simp only [List.getElem?_cons_zero, Option.some.injEq] at hi
        subst hi
        exact ⟨t, d, rfl, h1⟩
      | succ i =>
        simp only [List.getElem?_cons_succ] at hi
        obtain ⟨t', d', h3, h4⟩ := cellsF_get h2 i c hi
        exact ⟨t', d', by simpa using h3, h4⟩
    · cases h

section
variable {P : Program} {w : World} {enc : TypeId × Value → Unit} {base : Nat} {spare : Nat → Bool} {held : Bool}

theorem partsD_ok {ρ : Rho} {f : TypeId → DataW Unit → Option (List CV)} {t : TypeId} {ts os ns : List Nat} {l : List (DataW Unit)} {cs : List CV} {vs : List Value} (h : partsD P f t ts os ns l = some cs) (hlen : vs.length = P.cellsOf t)
    (hp : ∀ (i : Nat) (u : TypeId) (d : DataW Unit) (o n : Nat) (c : List CV), ts[i]? = some u → l[i]? = some d → os[i]? = some o → ns[i]? = some n → f u d = some c → All2 (CR ρ) c ((vs.drop o).take n)) : All2 (CR ρ) cs vs := by
  unfold partsD at h
  split at h
  · rename_i cs0 h0
    split at h
    · rename_i hb
      cases h
      simp only [Bool.and_eq_true, beq_iff_eq] at hb
      obtain ⟨⟨⟨_, h1⟩, h2⟩, h3⟩ := hb
      have := flatCells_ok (ρ := ρ) cs0 os ns 0 vs h1 h2 fun i c o n a b d => by
        obtain ⟨u, x, e1, e2⟩ := cellsF_get h0 i c a
        rw [List.getElem?_zip_eq_some] at e1
        exact hp i u x o n c e1.1 e1.2 b d e2
      rw [List.drop_zero, List.take_of_length_le (by rw [hlen, h3]; exact Nat.le_refl _)] at this
      exact this
    · cases h
  · cases h

theorem cellsD_ok (ρ : Rho) : ∀ (k : Nat) (t : TypeId) (d : DataW Unit) (cs : List CV), cellsD P k t d = some cs → ∀ (fuel : Nat) (vs : List Value) (p : List MemPlace), DataW.trod enc P w base spare held fuel t vs = some (d, p) → All2 (CR ρ) cs vs
  | 0, _, _, _, h => by cases h
  | k + 1, t, d, cs, h => by
    intro fuel vs p ht
    unfold cellsD at h
    split at h
    · rename_i k0 k' n hu
      cases h
      obtain ⟨n', rfl, hx, _⟩ := DataW.trod_int hu ht
      cases hx
      exact ⟨rfl, trivial⟩
    · rename_i b hu
      cases h
      obtain ⟨b', rfl, hx⟩ := DataW.trod_bool hu ht
      cases hx
      exact ⟨rfl, trivial⟩
    · rename_i s hu
      cases h
      obtain ⟨s', rfl, hx, _⟩ := DataW.trod_string hu ht
      cases hx
      exact ⟨⟨(strV_back _).1.symm, (strV_back _).2⟩, trivial⟩
    · rename_i n e l hu
      obtain ⟨xs, m, _, hx, hl, hn, hel⟩ := DataW.trod_array hu ht
      cases hx
      refine partsD_ok h hl fun i u x o n' c h1 h2 h3 h4 h5 => ?_
      rw [List.getElem?_replicate] at h1 h4
      split at h1
      · rename_i hi
        cases h1
        rw [if_pos hi] at h4
        cases h4
        rw [List.getElem?_map, List.getElem?_range hi] at h3
        cases h3
        have := hel i hi
        rw [List.getElem?_map] at h2
        cases hxi : xs[i]? with
        | none => rw [hxi] at h2; cases h2
        | some y =>
          rw [hxi] at h2 this
          cases h2
          exact cellsD_ok ρ k e y.1 c h5 m _ y.2 this
      · cases h1
    · rename_i fs l hu
      obtain ⟨xs, m, _, hx, hl, hn, hel⟩ := DataW.trod_struct hu ht
      cases hx
      refine partsD_ok h hl fun i u x o n' c h1 h2 h3 h4 h5 => ?_
      rw [List.getElem?_map, Array.getElem?_toList] at h1 h3 h4
      cases hfi : fs[i]? with
      | none => rw [hfi] at h1; cases h1
      | some fd =>
        rw [hfi] at h1 h3 h4
        cases h1; cases h3; cases h4
        have := hel i fd hfi
        rw [List.getElem?_map] at h2
        cases hxi : xs[i]? with
        | none => rw [hxi] at h2; cases h2
        | some y =>
          rw [hxi] at h2 this
          cases h2
          exact cellsD_ok ρ k fd.type y.1 c h5 m _ y.2 this
    · cases h

end

/-! ### The world when the call begins -/

def tyAt (P : Program) (g : Nat) : Option TypeId := (((begin P (fun _ _ => 0) default).world.heap[g]?).bind Obj.row?).map (·.2)

def unitOf (P : Program) (t : TypeId) (n : Nat) : Nat :=
  match P.underlying t with
  | some (.array _ e) => P.cellsOf e
  | _ => n

def obOf (P : Program) (laid : List (String × DataW Unit)) (g : Nat) : Ob :=
  match laid.find? fun x => P.globalNamed x.1 == some g with
  | some x => (match tyAt P g, (P.globals[g]?).map (·.type) with
    | some el, some t => (match cellsD P 10 t x.2 with
      | some l => rowOf el (unitOf P t l.length) l .dead id
      | none => .dead)
    | _, _ => .dead)
  | none => .dead

def obsOf (P : Program) (laid : List (String × DataW Unit)) : List Ob := (List.range (glb P)).map (obOf P laid)

theorem laidVars_get {P : Program} {w : World} : ∀ {l : List (String × DataW Unit)} {ps : List MemPlace}, DataW.LaidVars P w l ps → ∀ x ∈ l, ∃ g t cs fuel p, P.globalNamed x.1 = some g ∧ (P.globals[g]?).map (·.type) = some t ∧ w.var? P x.1 = some cs ∧ DataW.trod (fun _ => ()) P w 0 (fun _ => true) false fuel t cs.toList = some (x.2, p)
  | [], _, _, x, hx => by cases hx
  | (n, d) :: r, ps, h, x, hx => by
    obtain ⟨g, t, cs, fuel, p, q, h1, h2, h3, h4, h5, _⟩ := h
    rcases List.mem_cons.1 hx with rfl | hx
    · exact ⟨g, t, cs, fuel, p, h1, h2, h3, h4⟩
    · exact laidVars_get h5 x hx

def ρG (P : Program) : Rho := fun id => if id < glb P then some ⟨id, 0, 0⟩ else none

theorem obOf_ok {P : Program} {laid : List (String × DataW Unit)} {w : World} (hS : w.ShapedOpen P) (hL : laidMet P laid w) {g : Nat} (hg : g < glb P) (ρ : Rho) : OR ρ ⟨g, 0, 0⟩ (obOf P laid g) w.heap[g]? := by
  unfold obOf
  split
  · rename_i x hx
    split
    · rename_i el t hel ht
      split
      · rename_i l hl
        obtain ⟨ps, hv, _⟩ := hL
        have hmem := List.mem_of_find?_eq_some hx
        have hname := List.find?_some hx
        obtain ⟨g', t', cs, fuel, p, h1, h2, h3, h4⟩ := laidVars_get hv x hmem
        simp only [beq_iff_eq] at hname
        rw [hname] at h1; cases h1
        rw [ht] at h2; cases h2
        unfold tyAt at hel
        cases hr : ((begin P (fun _ _ => 0) default).world.heap[g]?).bind Obj.row? with
        | none => rw [hr] at hel; cases hel
        | some q =>
          rw [hr] at hel
          obtain ⟨zero, el'⟩ := q
          cases hel
          obtain ⟨cs', hcs, _, _⟩ := hS.1 g zero el' hg hr
          have : cs = cs' := by
            unfold World.var? at h3
            rw [hname] at h3
            simp only [Option.bind_some, hcs] at h3
            exact (Option.some.inj h3).symm
          subst this
          have hall := cellsD_ok ρ 10 t x.2 l hl fuel cs.toList p h4
          rcases rowOf_ok el' (unitOf P t l.length) l Ob.dead id with h | ⟨sz', d, tr, h, hrow⟩
          · rw [h]; trivial
          · rw [h]
            refine ⟨cs, (0, 0), hcs, ⟨fun i hi => ?_, hrow.whole, hrow.lev, hrow.mult, ?_, fun _ => ⟨rfl, rfl, by have := hall.length; simp only [Array.length_toList] at this; exact this.symm⟩, fun i _ _ => ?_, fun h => (by simp at h), fun _ => .inl rfl⟩⟩
            · rw [hrow.cell i hi]
              obtain ⟨y, hy, hr⟩ := hall.get i l[i] (List.getElem?_eq_getElem hi)
              refine ⟨y, by simpa using hy, ?_⟩
              rw [List.getD_eq_getElem?_getD, List.getElem?_eq_getElem hi]
              exact hr
            · have := hall.length
              simp only [Array.length_toList] at this
              show 0 + l.length + 0 * sz' ≤ cs.size
              omega
            · simp
      · trivial
    · trivial
  · trivial

/-! ### Calls without arguments -/

theorem isTrue_ok {r : RO} (h : isTrue r = true) : ∃ m, r = .ok (.c (.bool true)) m := by
  unfold isTrue at h
  split at h
  · exact ⟨_, rfl⟩
  · cases h

theorem call_true {P : Program} {laid : List (String × DataW Unit)} {W : World} (hS : W.ShapedOpen P) (hL : laidMet P laid W) (hcap : Nat.ble (glb P) (capN hd) = true) (hlast : glb P = 0 ∨ (tyAt P (glb P - 1)).isSome = true) {lf n f : Nat}
    (h : isTrue (runAt P lf n f (obsOf P laid)) = true) : Calls P f #[] W fun e W' => e = .returned (.bool true) ∧ Below W.heap.size W W' := by
  have hcap := ble_iff.1 hcap
  have hsz : glb P ≤ W.heap.size := by
    rcases hlast with h0 | h0
    · omega
    · rcases Nat.eq_zero_or_pos (glb P) with h1 | h1
      · omega
      · unfold tyAt at h0
        cases hr : ((begin P (fun _ _ => 0) default).world.heap[glb P - 1]?).bind Obj.row? with
        | none => rw [hr] at h0; cases h0
        | some q =>
          obtain ⟨zero, el⟩ := q
          obtain ⟨cs', hcs, _, _⟩ := hS.1 (glb P - 1) zero el (show glb P - 1 < P.globals.size by unfold glb at *; omega) hr
          have := (Array.getElem?_eq_some_iff.1 hcs).1
          omega
  obtain ⟨m', hr⟩ := isTrue_ok h
  unfold runAt at hr
  obtain ⟨H, h1, h2⟩ := bld_ok Ob.dead hd (obsOf P laid) (fun H _ => (lowN P lf n).call f [] ⟨H, glb P, inf, inf, []⟩)
  rw [h1] at hr
  have hlen : (obsOf P laid).length = glb P := by simp [obsOf]
  have hob : ∀ g, g < glb P → obj H g = obOf P laid g := fun g hg => by
    have := h2 g (by omega)
    show (getN hd g).f H = _
    rw [this, List.getD_eq_getElem?_getD]
    unfold obsOf
    rw [List.getElem?_map, List.getElem?_range hg]; rfl
  have hρ : ∀ id s, ρG P id = some s → id < glb P ∧ s = ⟨id, 0, 0⟩ := fun id s hs => by
    unfold ρG at hs
    split at hs
    · cases hs; exact ⟨by assumption, rfl⟩
    · cases hs
  have hw : WF P (⟨H, glb P, inf, inf, []⟩ : M) := ⟨Nat.le_refl _, hcap, fun id hid hc => by
    have hid : glb P ≤ id := hid
    have := h2 id hc
    show (getN hd id).f H = _
    rw [this, List.getD_eq_getElem?_getD, List.getElem?_eq_none (by omega)]; rfl⟩
  have hrel : Rel P W.heap.size (fun _ => True) (ρG P) H W := by
    refine ⟨hsz, Nat.le_refl _, fun id s hs => ?_, fun id s hs => ?_, fun g hg => if_pos hg, fun id s hs hg => ?_, fun id id' s s' _ _ hg hg' hs => ?_, fun id s hs _ => ?_⟩
    · have := hρ id s hs; omega
    · obtain ⟨a, rfl⟩ := hρ id s hs
      show id < W.heap.size
      omega
    · have := hρ id s hs; omega
    · have := hρ id s hs; omega
    · obtain ⟨a, rfl⟩ := hρ id s hs
      rw [hob id a]
      exact obOf_ok hS hL a _
  have hf : Fresh (ρG P) (⟨H, glb P, inf, inf, []⟩ : M) m' := fun id hid _ => if_neg (by have hid : glb P ≤ id := hid; omega)
  have hlow := lowN_ok (den_ok P) lf n
  have hc := hlow.call f [] ⟨H, glb P, inf, inf, []⟩ _ m' hr rfl W.heap.size (fun _ => True) (ρG P) W [] hw (fun _ _ => trivial) hrel hf trivial 0
  refine (callsIn_wide.1 hc).mono fun e W' => ?_
  rintro ⟨x, ρ', rfl, hran⟩
  have hx : x = .bool true := hran.val
  refine ⟨by rw [hx], ⟨hran.post.os, hran.post.tape, hran.post.out, hran.post.size, fun b hb => hran.post.frame b hb fun id s hs hg => ?_⟩⟩
  have := hρ id s hs; omega

end Go.CE
