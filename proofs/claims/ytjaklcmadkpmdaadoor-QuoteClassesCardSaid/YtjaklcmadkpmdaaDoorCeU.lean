/- An operation looks at its operands alone. No program is named. -/
import Derived.Test.YtjaklcmadkpmdaaDoorCeV
import Derived.Orders
noncomputable section
namespace Go.CE
open Go

variable {P : Program} {D : Nat} {e e2 : NT D AV} {c : Ctx} {m : M}

/-- Two stacks of temporaries are alike for an operand. -/
def Alike (P : Program) {D : Nat} (e e2 : NT D AV) (x : Operand) : Prop := (evO P x).f e = (evO P x).f e2

theorem allPlain_local : ∀ (l : List Operand), (∀ x ∈ l, Alike P e e2 x) → (allPlain P l).f e = (allPlain P l).f e2
  | [], _ => rfl
  | x :: r, h => by
    show iff (plainA ((evO P x).f e)) ((allPlain P r).f e) false = iff (plainA ((evO P x).f e2)) ((allPlain P r).f e2) false
    rw [h x (by simp), allPlain_local r fun y hy => h y (by simp [hy])]

theorem genOp_local (o : Oper) (hs : ∀ cs b, o.op ≠ .select cs b) (h : ∀ x ∈ o.op.operands.toList, Alike P e e2 x) : (genOp P o).f c e m = (genOp P o).f c e2 m := by
  show iff ((allPlain P o.op.operands.toList).f e) ((gen P o).f c e m) (.fail (opTag o.op)) = iff ((allPlain P o.op.operands.toList).f e2) ((gen P o).f c e2 m) (.fail (opTag o.op))
  rw [allPlain_local _ h]
  have : (gen P o).f c e m = (gen P o).f c e2 m := by
    show backN (arun P (execOp (fun x => genV ((evO P x).f e)) o)) m = backN (arun P (execOp (fun x => genV ((evO P x).f e2)) o)) m
    rw [execOp_congr o hs fun x hx => by rw [h x (by simpa using hx)]]
  rw [this]

theorem layParts_local {β : Type} (bad : β) : ∀ (l : List Part), (∀ p ∈ l, Alike P e e2 p.x) → ∀ (cs : List CV) (k : List CV → β), (layParts P bad l).f e cs k = (layParts P bad l).f e2 cs k
  | [], _, _, _ => rfl
  | p :: r, h, cs, k => by
    have ih := layParts_local bad r fun y hy => h y (by simp [hy])
    show cellsA ((evO P p.x).f e) bad (fun vs => iff (Nat.beq vs.length p.sz) (spl bad p.off vs cs fun cs => (layParts P bad r).f e cs k) bad) = cellsA ((evO P p.x).f e2) bad (fun vs => iff (Nat.beq vs.length p.sz) (spl bad p.off vs cs fun cs => (layParts P bad r).f e2 cs k) bad)
    rw [h p (by simp)]
    simp only [ih]

theorem partsStruct_mem {fields : Array Field} : ∀ {l : List (Nat × Operand)} {ps : List Part}, partsStruct P fields l = some ps → ∀ p ∈ ps, p.x ∈ l.map (·.2)
  | [], ps, h, p, hp => by
    simp only [partsStruct] at h
    cases h; cases hp
  | q :: r, ps, h, p, hp => by
    simp only [partsStruct] at h
    split at h
    · rename_i p1 l1 h1 h2
      cases h
      rcases List.mem_cons.1 hp with rfl | hp
      · unfold placeStruct at h1
        split at h1
        · split at h1
          · cases h1; simp
          · cases h1
        · cases h1
      · have := partsStruct_mem h2 p hp
        simp only [List.map_cons, List.mem_cons]
        exact .inr this
    · cases h

theorem partsRow_mem {s : Nat} {l : List (Nat × Operand)} {p : Part} (hp : p ∈ partsRow s l) : p.x ∈ l.map (·.2) := by
  unfold partsRow at hp
  obtain ⟨q, hq, rfl⟩ := List.mem_map.1 hp
  exact List.mem_map.2 ⟨q, hq, rfl⟩

theorem ptrs_local : ∀ (l : List Operand), (∀ x ∈ l, Alike P e e2 x) → ∀ k, (ptrs P l).f e k = (ptrs P l).f e2 k
  | [], _, _ => rfl
  | x :: r, h, k => by
    have ih := ptrs_local r fun y hy => h y (by simp [hy])
    have hx : (evO P x).f e = (evO P x).f e2 := h x (by simp)
    unfold ptrs
    simp only [hx, ih]

theorem evArgs_local : ∀ (l : List Operand), (∀ x ∈ l, Alike P e e2 x) → ∀ k, (evArgs P l).f e k = (evArgs P l).f e2 k
  | [], _, _ => rfl
  | x :: r, h, k => by
    have ih := evArgs_local r fun y hy => h y (by simp [hy])
    have hx : (evO P x).f e = (evO P x).f e2 := h x (by simp)
    unfold evArgs
    simp only [hx, ih]

theorem bound_local {x : Option Operand} {d : Nat} (h : ∀ y ∈ x.toList, Alike P e e2 y) (k : Nat → RO) : bound P x d e k = bound P x d e2 k := by
  cases x with
  | none => rfl
  | some x =>
    have : (evO P x).f e = (evO P x).f e2 := h x (by simp)
    unfold bound
    simp only [this]

theorem isCapOf_local {mx : Option Operand} (h : ∀ y ∈ mx.toList, Alike P e e2 y) (id cap : Nat) : isCapOf P mx e id cap = isCapOf P mx e2 id cap := by
  cases mx with
  | none => rfl
  | some x =>
    have : (evO P x).f e = (evO P x).f e2 := h x (by simp)
    unfold isCapOf
    simp only [this]

theorem callD_local {f : Operand} {args : List Operand} (hf : Alike P e e2 f) (h : ∀ x ∈ args, Alike P e e2 x) : (callD P f args).f c e m = (callD P f args).f c e2 m := by
  unfold callD
  split
  · rw [iff_eq]
    split
    · exact evArgs_local _ h _
    · exact evArgs_local _ h _
  · show callV P args c.low e m _ = callV P args c.low e2 m _
    have : (evO P f).f e = (evO P f).f e2 := hf
    rw [this]
    unfold callV
    split
    · rw [evArgs_local _ h]
    · exact evArgs_local _ h _
    · rfl

theorem builtinD_local {o : Oper} {b : Builtin} {args : Array Operand} {ts : Array TypeId} (hs : ∀ cs b, o.op ≠ .select cs b) (ho : ∀ x ∈ o.op.operands.toList, Alike P e e2 x) (h : ∀ x ∈ args.toList, Alike P e e2 x) :
    (builtinD P o b args ts).f c e m = (builtinD P o b args ts).f c e2 m := by
  unfold builtinD
  split
  · rename_i x hl
    have hx : (evO P x).f e = (evO P x).f e2 := h x (by rw [hl]; simp)
    split
    · unfold capD; split
      · simp only [hx]
      · exact genOp_local o hs ho
    · rfl
  · rename_i x hl
    have hx : (evO P x).f e = (evO P x).f e2 := h x (by rw [hl]; simp)
    simp only [hx]
  · rename_i x y hl
    have hx : (evO P x).f e = (evO P x).f e2 := h x (by rw [hl]; simp)
    have hy : (evO P y).f e = (evO P y).f e2 := h y (by rw [hl]; simp)
    unfold dataTextD; split
    · split
      · rw [iff_eq]; split <;> first | rfl | simp only [hx, hy]
      · rfl
    · rfl
  · rename_i x hl
    have hx : (evO P x).f e = (evO P x).f e2 := h x (by rw [hl]; simp)
    split
    · unfold lenD; split <;> first | rfl | simp only [hx]
    · rfl
  · rename_i x y hl
    have hx : (evO P x).f e = (evO P x).f e2 := h x (by rw [hl]; simp)
    have hy : (evO P y).f e = (evO P y).f e2 := h y (by rw [hl]; simp)
    unfold appendD; split
    · split
      · unfold appendE; split
        · unfold appendL; rw [iff_eq]; split <;> first | rfl | simp only [hx, hy]
        · rfl
      · unfold appendE; split
        · unfold appendL; rw [iff_eq]; split <;> first | rfl | simp only [hx, hy]
        · rfl
      · rfl
    · rfl
  · rename_i x y hl
    have hx : (evO P x).f e = (evO P x).f e2 := h x (by rw [hl]; simp)
    have hy : (evO P y).f e = (evO P y).f e2 := h y (by rw [hl]; simp)
    unfold copyD; split
    · split
      · unfold copyL; split <;> first | rfl | simp only [hx, hy]
      · rfl
    · rfl
  all_goals first | rfl | exact genOp_local o hs ho

theorem opD_local (o : Oper) (h : ∀ x ∈ o.op.operands.toList, Alike P e e2 x) : (opD P o).f c e m = (opD P o).f c e2 m := by
  obtain ⟨dst, op, ty, pos, after, guard⟩ := o
  have go : ∀ (y : Operand), y ∈ (Oper.mk dst op ty pos after guard).op.operands.toList → (evO P y).f e = (evO P y).f e2 := h
  cases op
  case move x => have hx := go x (by simp [Op.operands]); simp only [opD, moveD, hx]
  case assign x => have hx := go x (by simp [Op.operands]); simp only [opD, moveD, hx]
  case pick a b d =>
    have h1 := go a (by simp [Op.operands]); have h2 := go b (by simp [Op.operands]); have h3 := go d (by simp [Op.operands])
    simp only [opD, pickD, h1, h2, h3]
  case alloc t => simp only [opD]; unfold allocD; split <;> rfl
  case box t x => have hx := go x (by simp [Op.operands]); simp only [opD, boxD, hx]
  case build t ps =>
    have hl : ∀ y ∈ ps.toList.map (·.2), Alike P e e2 y := fun y hy => go y (by simpa [Op.operands] using hy)
    simp only [opD]; unfold buildD; split
    · unfold buildS; split
      · rename_i q _ hq _
        exact layParts_local _ _ (fun p hp => hl _ (partsStruct_mem hq p hp)) _ _
      · rfl
    · unfold buildR; split
      · exact layParts_local _ _ (fun p hp => hl _ (partsRow_mem hp)) _ _
      · rfl
    · rfl
  case buildSlice t n ps =>
    have hl : ∀ y ∈ ps.toList.map (·.2), Alike P e e2 y := fun y hy => go y (by simpa [Op.operands] using hy)
    simp only [opD]; unfold buildSliceD; split
    · split
      · unfold buildSliceL; rw [iff_eq]; split
        · exact layParts_local _ _ (fun p hp => hl _ (partsRow_mem hp)) _ _
        · rfl
      · rfl
    · rfl
  case load t x => have hx := go x (by simp [Op.operands]); simp only [opD]; unfold loadD; split
                   · rw [iff_eq]; split <;> first | rfl | simp only [hx]
                   · rfl
  case store t x y =>
    have hx := go x (by simp [Op.operands]); have hy := go y (by simp [Op.operands])
    simp only [opD]; unfold storeD; split <;> first | rfl | simp only [hx, hy]
  case nilCheck x => have hx := go x (by simp [Op.operands]); simp only [opD, nilCheckD, hx]
  case binOp op t x y s =>
    have hx := go x (by simp [Op.operands]); have hy := go y (by simp [Op.operands])
    have hg := genOp_local (P := P) (e := e) (e2 := e2) (c := c) (m := m) ⟨dst, .binOp op t x y s, ty, pos, after, guard⟩ (fun _ _ => by simp) h
    simp only [opD]; unfold binD; split
    · simp only [hx, hy]
    · simp only [hx, hy]
    · simp only [hx, hy, hg]
  case unOp op t x =>
    have hx := go x (by simp [Op.operands])
    have hg := genOp_local (P := P) (e := e) (e2 := e2) (c := c) (m := m) ⟨dst, .unOp op t x, ty, pos, after, guard⟩ (fun _ _ => by simp) h
    simp only [opD]; unfold unD; split
    · simp only [hx]
    · exact hg
  case convert s t x =>
    have hx := go x (by simp [Op.operands])
    have hg := genOp_local (P := P) (e := e) (e2 := e2) (c := c) (m := m) ⟨dst, .convert s t x, ty, pos, after, guard⟩ (fun _ _ => by simp) h
    simp only [opD]; unfold convertD; split
    · simp only [hx]
    · simp only [hx]
    · split <;> first | rfl | simp only [hx]
    · split <;> first | rfl | simp only [hx]
    · split
      · rw [iff_eq]; split <;> first | rfl | simp only [hx]
      · rfl
    · split <;> first | rfl | simp only [hx]
    · split <;> first | rfl | simp only [hx]
    · exact hg
  case makeFunc fn a b =>
    have ha : ∀ y ∈ a.toList, Alike P e e2 y := fun y hy => go y (by simp [Op.operands]; exact .inl (by simpa using hy))
    have hb : ∀ y ∈ b.toList, Alike P e e2 y := fun y hy => go y (by simp [Op.operands]; exact .inr (by simpa using hy))
    simp only [opD]; unfold makeFuncD; split
    · show (ptrs P a.toList).f e _ = (ptrs P a.toList).f e2 _
      rw [ptrs_local _ ha]
      simp only [ptrs_local _ hb]
    · rfl
  case makeMap t r =>
    simp only [opD]; unfold makeMapD; split
    · rfl
    · rename_i x
      have hx := go x (by simp [Op.operands])
      split <;> first | rfl | simp only [hx]
  case makeSlice t x y =>
    have hx := go x (by simp [Op.operands]); have hy := go y (by simp [Op.operands])
    simp only [opD]; unfold makeSliceD; split
    · split
      · unfold makeSliceL; rw [iff_eq]; split <;> first | rfl | simp only [hx, hy]
      · rfl
    · rfl
  case slice t x lo hi mx =>
    have hx := go x (by simp [Op.operands])
    have hlo : ∀ y ∈ lo.toList, Alike P e e2 y := fun y hy => go y (by simp [Op.operands] at hy ⊢; simp [hy])
    have hhi : ∀ y ∈ hi.toList, Alike P e e2 y := fun y hy => go y (by simp [Op.operands] at hy ⊢; simp [hy])
    have hmx : ∀ y ∈ mx.toList, Alike P e e2 y := fun y hy => go y (by simp [Op.operands] at hy ⊢; simp [hy])
    simp only [opD]; unfold sliceD; rw [iff_eq]; split
    · rfl
    · split
      · split
        · simp only [hx]; unfold slStr; split <;> first | rfl | simp only [bound_local hlo, bound_local hhi]
        · rfl
      · split
        · simp only [hx]; unfold slSlc; split <;> first | rfl | simp only [isCapOf_local hmx, bound_local hlo, bound_local hhi, bound_local hmx] | simp only [bound_local hlo, bound_local hhi, bound_local hmx] | (split <;> first | rfl | simp only [bound_local hlo, bound_local hhi])
        · rfl
      · split
        · simp only [hx]; unfold slArr; split <;> first | rfl | simp only [bound_local hlo, bound_local hhi, bound_local hmx]
        · rfl
      · rfl
  case fieldAddr t x f =>
    have hx := go x (by simp [Op.operands])
    simp only [opD]; unfold fieldAddrD; split
    · split
      · unfold fieldAddrF; split <;> first | rfl | simp only [hx]
      · rfl
    · rfl
  case field t x f =>
    have hx := go x (by simp [Op.operands])
    simp only [opD]; unfold fieldD; split
    · split
      · unfold fieldF; split
        · rw [iff_eq]; split <;> first | rfl | simp only [hx]
        · rfl
      · rfl
    · rfl
  case indexAddr t x i =>
    have hx := go x (by simp [Op.operands]); have hy := go i (by simp [Op.operands])
    simp only [opD]; unfold indexAddrD; split
    · split <;> first | rfl | simp only [hx, hy]
    · split <;> first | rfl | simp only [hx, hy]
    · rfl
  case index t x i =>
    have hx := go x (by simp [Op.operands]); have hy := go i (by simp [Op.operands])
    simp only [opD]; unfold indexD; split
    · simp only [hx, hy]
    · split
      · rw [iff_eq]; split <;> first | rfl | simp only [hx, hy]
      · rfl
    · rfl
  case lookup t x i ok =>
    have hx := go x (by simp [Op.operands]); have hy := go i (by simp [Op.operands])
    simp only [opD]; unfold lookupD; split
    · split <;> first | rfl | simp only [hx, hy]
    · rfl
  case mapUpdate t x i y =>
    have hx := go x (by simp [Op.operands]); have hy := go y (by simp [Op.operands]); have hi := go i (by simp [Op.operands])
    simp only [opD]; unfold mapUpdateD; split <;> first | rfl | simp only [hx, hy, hi]
  case insert t x i y =>
    have hx := go x (by simp [Op.operands]); have hy := go y (by simp [Op.operands]); have hi := go i (by simp [Op.operands])
    simp only [opD]; unfold mapUpdateD; split <;> first | rfl | simp only [hx, hy, hi]
  case extract x i => have hx := go x (by simp [Op.operands]); simp only [opD, extractD, hx]
  case call cl =>
    have ha : ∀ y ∈ cl.args.toList, Alike P e e2 y := fun y hy => go y (by simp [Op.operands, Call.operands]; exact .inr (by simpa using hy))
    simp only [opD]
    split
    · rename_i f hf
      exact callD_local (go f (by simp [Op.operands, Call.operands, hf])) ha
    · exact builtinD_local (fun _ _ => by simp) h ha
    · rfl
  all_goals rfl

end Go.CE
