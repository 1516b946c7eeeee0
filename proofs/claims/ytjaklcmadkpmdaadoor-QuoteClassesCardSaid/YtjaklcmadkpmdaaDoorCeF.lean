/- ==, parts of values, addresses: what touches no memory. No program is named. -/
import Derived.Test.YtjaklcmadkpmdaaDoorCeE
import Derived.Lib.Builder
import Derived.ChangeKeysEq
import Derived.WideLaws
import Derived.Laws.Cover3
import Derived.Laws.Pointers
noncomputable section
namespace Go.CE
open Go

variable {P : Program} {B0 : Nat} {A W W' : Nat → Prop} {ρ ρ' ρ'' : Rho} {m m' m'' : M} {w w' w'' : World}

/-! ### Lists of cells -/

theorem spl_eq {β : Type} (bad : β) (off : Nat) (vs cs : List CV) (k : List CV → β) :
    spl bad off vs cs k = if off + vs.length ≤ cs.length then k (cs.take off ++ vs ++ cs.drop (off + vs.length)) else bad := by
  induction cs generalizing off vs k with
  | nil =>
    cases off with
    | zero => cases vs <;> rfl
    | succ off => rw [if_neg (by simp)]; rfl
  | cons c rest ih =>
    cases off with
    | zero =>
      cases vs with
      | nil => rw [if_pos (by simp)]; rfl
      | cons v vs =>
        show spl bad 0 vs rest (fun r => k (v :: r)) = _
        rw [ih]
        simp only [Nat.zero_add, List.length_cons, Nat.add_le_add_iff_right, List.take_zero, List.nil_append, List.cons_append, List.drop_succ_cons]
    | succ off =>
      show spl bad off vs rest (fun r => k (c :: r)) = _
      rw [ih]
      have e : off + 1 + vs.length = (off + vs.length) + 1 := by omega
      simp only [e, List.length_cons, Nat.add_le_add_iff_right, List.take_succ_cons, List.cons_append, List.drop_succ_cons]

theorem sub_eq {β : Type} (bad : β) (l : List CV) (off s : Nat) (k : List CV → β) :
    sub bad l off s k = if s ≤ (l.drop off).length then k ((l.drop off).take s) else bad := by
  induction l generalizing off s k with
  | nil =>
    cases s with
    | zero => rw [if_pos (by simp)]; simp only [List.take_zero]; rfl
    | succ s => rw [if_neg (by simp)]; rfl
  | cons c l ih =>
    cases off with
    | zero =>
      cases s with
      | zero => rfl
      | succ s =>
        show sub bad l 0 s (fun r => k (c :: r)) = _
        rw [ih]
        simp only [List.drop_zero, List.length_cons, Nat.add_le_add_iff_right, List.take_succ_cons]
    | succ off =>
      show sub bad l off s k = _
      rw [ih]
      rfl

theorem appC_eq {β : Type} (l r : List CV) (k : List CV → β) : appC l r k = k (l ++ r) := by
  induction l generalizing k with
  | nil => rfl
  | cons x l ih => exact ih fun q => k (x :: q)

theorem splitK_eq {β : Type} (n : Nat) (l : List CV) (bad : β) (k : List CV → List CV → β) : splitK n l bad k = if n ≤ l.length then k (l.take n) (l.drop n) else bad := by
  induction l generalizing n k with
  | nil =>
    cases n with
    | zero => rfl
    | succ n => rw [if_neg (by simp)]; rfl
  | cons x l ih =>
    cases n with
    | zero => rfl
    | succ n =>
      show splitK n l bad (fun a b => k (x :: a) b) = _
      rw [ih]
      simp only [List.length_cons, Nat.add_le_add_iff_right, List.take_succ_cons, List.drop_succ_cons]

theorem takeL_eq {β : Type} (l : List CV) (n : Nat) (k : List CV → β) : takeL l n k = k (l.take n) := by
  induction l generalizing n k with
  | nil => cases n <;> rfl
  | cons x l ih =>
    cases n with
    | zero => rfl
    | succ n => exact ih n fun r => k (x :: r)

theorem nthC_eq (l : List CV) (i : Nat) (m : M) : nthC l i m = match l[i]? with | some v => .ok (.c v) m | none => .fail [234] := by
  induction l generalizing i with
  | nil => rfl
  | cons x l ih =>
    cases i with
    | zero => rfl
    | succ i => exact ih i

theorem okTV_eq (m : M) (v : TV) : okTV m v = .ok (avOf v) m := by cases v <;> rfl

theorem nthT_eq (l : List TV) (i : Nat) (m : M) : nthT l i m = match l[i]? with | some v => .ok (avOf v) m | none => .fail [70] := by
  induction l generalizing i with
  | nil => rfl
  | cons x l ih =>
    cases i with
    | zero => exact okTV_eq m x
    | succ i => exact ih i

theorem nth_eq {β : Type} (bad : β) (l : List Nat) (i : Nat) (k : Nat → β) : nth bad l i k = match l[i]? with | some v => k v | none => bad := by
  induction l generalizing i with
  | nil => rfl
  | cons x l ih =>
    cases i with
    | zero => rfl
    | succ i => exact ih i

theorem ofCells_ok {agg : Bool} {l : List CV} {m m' : M} {v : AV} (h : ofCells agg l m = .ok v m') : m' = m ∧ ((agg = true ∧ v = .agg l) ∨ (agg = false ∧ ∃ c, l = [c] ∧ v = .c c)) := by
  unfold ofCells at h
  split at h
  · cases h; exact ⟨rfl, .inl ⟨rfl, rfl⟩⟩
  · split at h
    · cases h; exact ⟨rfl, .inr ⟨rfl, _, rfl, rfl⟩⟩
    · cases h

/-! ### Types -/

theorem isAggT_some {t : TypeId} {b : Bool} (h : isAggT P t = some b) : ∃ d, P.underlying t = some d ∧ (match d with | .struct _ | .array _ _ => true | _ => false) = b := by
  unfold isAggT at h
  split at h <;> first | (cases h; done) | skip
  · rename_i fs hu; cases h; exact ⟨_, hu, rfl⟩
  · rename_i n e hu; cases h; exact ⟨_, hu, rfl⟩
  · rename_i d h1 h2 hu
    cases h
    refine ⟨d, hu, ?_⟩
    cases d <;> first | rfl | (exact absurd rfl (h1 _)) | (exact absurd rfl (h2 _ _))

theorem run_isAggT {t : TypeId} {b : Bool} (h : isAggT P t = some b) (w : World) : (isAgg t).run P w = .ok b w := by
  obtain ⟨d, hd, hb⟩ := isAggT_some h
  unfold isAgg
  simp only [Sem.run_bind, run_underlying hd, Result.andThen_ok]
  subst hb
  cases d <;> rfl

theorem sizeT_some {t : TypeId} {s : Nat} (h : sizeT P t = some s) : ∃ i, P.info? t = some i ∧ i.size = s := by
  unfold sizeT at h
  split at h
  · rename_i i hi; cases h; exact ⟨i, hi, rfl⟩
  · cases h

theorem run_typeInfoT {t : TypeId} {i : TypeInfo} (h : P.info? t = some i) (w : World) : (typeInfo t).run P w = .ok i w := by
  unfold typeInfo
  simp only [Sem.run_bind, run_program, Result.andThen_ok, h, Sem.run_pure]

theorem run_sizeT {t : TypeId} {s : Nat} (h : sizeT P t = some s) (w : World) : (Go.sizeOf t).run P w = .ok s w := by
  obtain ⟨i, hi, hs⟩ := sizeT_some h
  unfold Go.sizeOf
  simp only [Sem.run_bind, run_typeInfoT hi, Result.andThen_ok, Sem.run_pure, hs]

theorem run_zeroT {t : TypeId} {z : List CV} (h : zeroT P t = some z) (w : World) : ∃ v, (zeroValue t).run P w = .ok v w ∧ ∀ ρ, All2 (CR ρ) z v.cells.toList := by
  unfold zeroT at h
  split at h
  · rename_i i hi
    split at h
    · rename_i v hv
      refine ⟨v, ?_, fun ρ => ofCVs_ok ρ h⟩
      unfold zeroValue
      simp only [Sem.run_bind, run_typeInfoT hi, Result.andThen_ok, hv, Sem.run_pure]
    · cases h
  · cases h

/-- A value of a type, by its cells. -/
def VT (ρ : Rho) (agg : Bool) (l : List CV) (v : Value) : Prop :=
  match agg with
  | true => ∃ vs : Array Value, v = .agg vs ∧ All2 (CR ρ) l vs.toList
  | false => ∃ c, l = [c] ∧ CR ρ c v

theorem VT.av {agg : Bool} {l : List CV} {x : Value} (h : VT ρ agg l x) {v : AV} (hv : (agg = true ∧ v = .agg l) ∨ (agg = false ∧ ∃ c, l = [c] ∧ v = .c c)) : AR ρ v x := by
  rcases hv with ⟨rfl, rfl⟩ | ⟨rfl, c, rfl, rfl⟩
  · exact h
  · obtain ⟨c', hc, hx⟩ := h
    cases hc; exact hx

theorem part_ok {t : TypeId} {agg : Bool} {s : Nat} (ha : isAggT P t = some agg) (hs : sizeT P t = some s) (h1 : agg = true ∨ s = 1) {l : List CV} {vs : Array Value} (hl : All2 (CR ρ) l vs.toList)
    {off : Nat} (ho : s ≤ (l.drop off).length) (w : World) : ∃ x, (part t vs off).run P w = .ok x w ∧ VT ρ agg ((l.drop off).take s) x := by
  unfold part
  simp only [Sem.run_bind, run_isAggT ha, Result.andThen_ok]
  cases agg with
  | true =>
    simp only [if_true, Sem.run_bind, run_sizeT hs, Result.andThen_ok, Sem.run_pure]
    refine ⟨_, rfl, _, rfl, ?_⟩
    have : (vs.extract off (off + s)).toList = (vs.toList.drop off).take s := by
      rw [Array.toList_extract]; simp [List.extract]
    rw [this]
    exact All2.take s (All2.drop off hl)
  | false =>
    have hs1 : s = 1 := h1.resolve_left (by simp)
    subst hs1
    simp only [Bool.false_eq_true, if_false]
    have hlt : off < l.length := by simp at ho; omega
    obtain ⟨x, hx, hc⟩ := hl.get off l[off] (List.getElem?_eq_getElem hlt)
    rw [Array.getElem?_toList] at hx
    rw [hx]
    refine ⟨x, rfl, l[off], ?_, hc⟩
    rw [List.drop_eq_getElem_cons hlt]; rfl

/-! ### == -/

theorem sameC_ok {x y : CV} {b : Bool} (h : sameC x y = some b) {vx vy : Value} (hx : CR ρ x vx) (hy : CR ρ y vy) :
    (∃ k a c, vx = .int k a ∧ vy = .int k c ∧ b = (a == c)) ∨ (∃ a c, vx = .bool a ∧ vy = .bool c ∧ b = (a == c)) ∨ (∃ s t, vx = .string s ∧ vy = .string t ∧ b = (s.toList == t.toList)) := by
  unfold sameC at h
  split at h
  · rename_i k a
    split at h
    · rename_i k' c
      rw [iff_eq] at h
      split at h
      · rename_i hk
        have hk := of_decide_eq_true hk
        subst hk
        cases h
        exact .inl ⟨k, a, c, hx, hy, iEq_eq a c⟩
      · cases h
    · cases h
  · rename_i a
    split at h
    · rename_i c
      cases h
      refine .inr (.inl ⟨a, c, hx, hy, ?_⟩)
      cases a <;> cases c <;> rfl
    · cases h
  · rename_i s
    split at h
    · rename_i t
      cases h
      refine .inr (.inr ⟨_, _, hx.1, hy.1, ?_⟩)
      show strEq s t = ((bytesOf s).toList == (bytesOf t).toList)
      rw [bytesOf_toList, bytesOf_toList, map_inj hx.2 hy.2, strEq_eq]
    · cases h
  · cases h

theorem eqKs_cons (k : Nat) (ks : List Nat) (x y : CV) (xs ys : List CV) : eqKs (k :: ks) (x :: xs) (y :: ys) = iff (kindC k x) (andO (sameC x y) (eqKs ks xs ys)) none := rfl

theorem andO_some {a b : Option Bool} {r : Bool} (h : andO a b = some r) : ∃ x y, a = some x ∧ b = some y ∧ r = (x && y) := by
  cases a with
  | none => cases h
  | some x => cases b with
    | none => cases h
    | some y => cases h; refine ⟨x, y, rfl, rfl, ?_⟩; cases x <;> rfl

theorem eqKs_some {k : Nat} {ks : List Nat} {xs ys : List CV} {b : Bool} (h : eqKs (k :: ks) xs ys = some b) :
    ∃ x xr y yr p q, xs = x :: xr ∧ ys = y :: yr ∧ kindC k x = true ∧ sameC x y = some p ∧ eqKs ks xr yr = some q ∧ b = (p && q) := by
  cases xs with
  | nil => cases h
  | cons x xr => cases ys with
    | nil => cases h
    | cons y yr =>
      rw [eqKs_cons, iff_eq] at h
      split at h
      · rename_i hk
        obtain ⟨p, q, h1, h2, h3⟩ := andO_some h
        exact ⟨x, xr, y, yr, p, q, rfl, rfl, hk, h1, h2, h3⟩
      · cases h

theorem eqKs_nil {xs ys : List CV} {b : Bool} (h : eqKs [] xs ys = some b) : xs = [] ∧ ys = [] ∧ b = true := by
  cases xs with
  | nil => cases ys with
    | nil => cases h; exact ⟨rfl, rfl, rfl⟩
    | cons _ _ => cases h
  | cons _ _ => cases h

theorem eqKs_length : ∀ {ks : List Nat} {xs ys : List CV} {b : Bool}, eqKs ks xs ys = some b → xs.length = ks.length ∧ ys.length = ks.length
  | [], xs, ys, b, h => by obtain ⟨rfl, rfl, _⟩ := eqKs_nil h; exact ⟨rfl, rfl⟩
  | k :: ks, xs, ys, b, h => by
    obtain ⟨x, xr, y, yr, p, q, rfl, rfl, _, _, h2, _⟩ := eqKs_some h
    have := eqKs_length h2
    simp [this.1, this.2]

theorem eqKs_append : ∀ {ks ls : List Nat} {xs ys : List CV} {b : Bool}, eqKs (ks ++ ls) xs ys = some b →
    ∃ p q, eqKs ks (xs.take ks.length) (ys.take ks.length) = some p ∧ eqKs ls (xs.drop ks.length) (ys.drop ks.length) = some q ∧ b = (p && q)
  | [], ls, xs, ys, b, h => ⟨true, b, rfl, h, rfl⟩
  | k :: ks, ls, xs, ys, b, h => by
    obtain ⟨x, xr, y, yr, p, q, rfl, rfl, hk, h1, h2, hb⟩ := eqKs_some (ks := ks ++ ls) h
    obtain ⟨p', q', h3, h4, hq⟩ := eqKs_append h2
    refine ⟨p && p', q', ?_, h4, by rw [hb, hq, Bool.and_assoc]⟩
    show eqKs (k :: ks) (x :: xr.take ks.length) (y :: yr.take ks.length) = _
    rw [eqKs_cons, hk, h1, h3]
    cases p <;> rfl

theorem sized_some {ks l : List Nat} {n : Nat} (h : sized ks n = some l) : l = ks ∧ ks.length = n := by
  unfold sized at h
  split at h
  · rename_i hn; cases h; exact ⟨rfl, hn⟩
  · cases h

/-- What == of a type comes to. -/
def FlatEq (P : Program) (d : Nat) (t : TypeId) (ks : List Nat) : Prop := ∃ agg, isAggT P t = some agg ∧ sizeT P t = some ks.length ∧ (agg = true ∨ ks.length = 1) ∧
  ∀ (dd : Nat) (ρ : Rho) (xs ys : List CV) (vx vy : Value) (b : Bool) (w : World), VT ρ agg xs vx → VT ρ agg ys vy → eqKs ks xs ys = some b → (Op.equalIn (dd + d) t vx vy).run P w = .ok b w

theorem eqFields_ok (d dd : Nat) (kinds : TypeId → Option (List Nat)) (hk : ∀ t ks, kinds t = some ks → FlatEq P d t ks) :
    ∀ (fs : List Field) (n : Nat) (ks : List Nat), kindsFs kinds fs n = some ks → ∀ (ρ : Rho) (xs ys : List CV) (vx vy : Array Value) (b : Bool) (w : World), All2 (CR ρ) xs vx.toList → All2 (CR ρ) ys vy.toList →
      eqKs ks (xs.drop n) (ys.drop n) = some b → (Op.eqFields (dd + d) vx vy fs).run P w = .ok b w
  | [], n, ks, h, ρ, xs, ys, vx, vy, b, w, _, _, he => by
    cases h
    obtain ⟨_, _, rfl⟩ := eqKs_nil he
    rfl
  | f :: fs, n, ks, h, ρ, xs, ys, vx, vy, b, w, hx, hy, he => by
    unfold kindsFs at h
    split at h
    · rename_i hf
      simp only [Bool.and_eq_true, bne_iff_ne, beq_iff_eq] at hf
      split at h
      · rename_i k1 hk1
        split at h
        · rename_i l hl
          cases h
          obtain ⟨agg, ha, hs, h1, hflat⟩ := hk _ _ hk1
          obtain ⟨p, q, hp, hq, hb⟩ := eqKs_append he
          have hlen := eqKs_length he
          have hxo : k1.length ≤ (xs.drop n).length := by rw [hlen.1]; simp
          have hyo : k1.length ≤ (ys.drop n).length := by rw [hlen.2]; simp
          obtain ⟨va, hva, hVa⟩ := part_ok ha hs h1 hx (off := n) hxo w
          obtain ⟨vb, hvb, hVb⟩ := part_ok ha hs h1 hy (off := n) hyo w
          have hrun := hflat dd ρ _ _ va vb p w hVa hVb hp
          have ih := eqFields_ok d dd kinds hk fs (n + k1.length) l hl ρ xs ys vx vy q w hx hy (by rw [← List.drop_drop, ← List.drop_drop]; exact hq)
          unfold Op.eqFields
          rw [if_pos hf.1, hf.2]
          simp only [Sem.run_bind, hva, hvb, hrun, Result.andThen_ok]
          subst hb
          cases p with
          | true => simp only [Bool.not_true, Bool.false_eq_true, if_false, Bool.true_and]; exact ih
          | false => simp only [Bool.not_false, if_true, Bool.false_and]; rfl
        · cases h
      · cases h
    · cases h

theorem eqItems_ok (d dd : Nat) (t : TypeId) (k : List Nat) (hk : FlatEq P d t k) :
    ∀ (n j : Nat) (ρ : Rho) (xs ys : List CV) (vx vy : Array Value) (b : Bool) (w : World), All2 (CR ρ) xs vx.toList → All2 (CR ρ) ys vy.toList →
      eqKs (repK k n) (xs.drop (j * k.length)) (ys.drop (j * k.length)) = some b → (Op.eqItems (dd + d) t k.length vx vy (List.range' j n)).run P w = .ok b w
  | 0, j, ρ, xs, ys, vx, vy, b, w, _, _, he => by
    obtain ⟨_, _, rfl⟩ := eqKs_nil he
    rfl
  | n + 1, j, ρ, xs, ys, vx, vy, b, w, hx, hy, he => by
    obtain ⟨agg, ha, hs, h1, hflat⟩ := hk
    have he' : eqKs (k ++ repK k n) (xs.drop (j * k.length)) (ys.drop (j * k.length)) = some b := he
    obtain ⟨p, q, hp, hq, hb⟩ := eqKs_append he'
    have hlen := eqKs_length he'
    have hxo : k.length ≤ (xs.drop (j * k.length)).length := by rw [hlen.1]; simp
    have hyo : k.length ≤ (ys.drop (j * k.length)).length := by rw [hlen.2]; simp
    obtain ⟨va, hva, hVa⟩ := part_ok ha hs h1 hx (off := j * k.length) hxo w
    obtain ⟨vb, hvb, hVb⟩ := part_ok ha hs h1 hy (off := j * k.length) hyo w
    have hrun := hflat dd ρ _ _ va vb p w hVa hVb hp
    have e : (j + 1) * k.length = j * k.length + k.length := Nat.succ_mul j k.length
    have ih := eqItems_ok d dd t k ⟨agg, ha, hs, h1, hflat⟩ n (j + 1) ρ xs ys vx vy q w hx hy (by rw [e, ← List.drop_drop, ← List.drop_drop]; exact hq)
    rw [List.range'_succ]
    unfold Op.eqItems
    simp only [Sem.run_bind, hva, hvb, hrun, Result.andThen_ok]
    subst hb
    cases p with
    | true => simp only [Bool.not_true, Bool.false_eq_true, if_false, Bool.true_and]; exact ih
    | false => simp only [Bool.not_false, if_true, Bool.false_and]; rfl

theorem kindC_ok {k : Nat} {c : CV} (h : kindC k c = true) : (k = 1 ∧ ∃ j n, c = .int j n) ∨ (k = 2 ∧ ∃ b, c = .bool b) ∨ (k = 3 ∧ ∃ s, c = .str s) := by
  cases c with
  | int j n => exact .inl ⟨Nat.eq_of_beq_eq_true h, j, n, rfl⟩
  | bool b => exact .inr (.inl ⟨Nat.eq_of_beq_eq_true h, b, rfl⟩)
  | str s => exact .inr (.inr ⟨Nat.eq_of_beq_eq_true h, s, rfl⟩)
  | ref r => cases h

/-- A type of one cell. -/
theorem leaf_ok {d k : Nat} {t : TypeId} {i : TypeInfo} {kd : TypeDesc} (hi : P.info? t = some i) (hu : P.underlying t = some kd) (hn : i.size = 1)
    (hk : (k = 1 ∧ ∃ j, kd = .int j) ∨ (k = 2 ∧ kd = .bool) ∨ (k = 3 ∧ kd = .string)) : FlatEq P (d + 1) t [k] := by
  refine ⟨false, ?_, ?_, .inr rfl, fun dd ρ xs ys vx vy b w hx hy he => ?_⟩
  · unfold isAggT; rw [hu]
    rcases hk with ⟨_, _, rfl⟩ | ⟨_, rfl⟩ | ⟨_, rfl⟩ <;> rfl
  · unfold sizeT; rw [hi]; exact congrArg some hn
  · obtain ⟨c, rfl, hc⟩ := hx
    obtain ⟨c', rfl, hc'⟩ := hy
    obtain ⟨x, xr, y, yr, p, q, e1, e2, hkx, h1, h2, hb⟩ := eqKs_some he
    cases e1; cases e2
    obtain ⟨_, _, rfl⟩ := eqKs_nil h2
    rw [Bool.and_true] at hb; subst hb
    rcases kindC_ok hkx with ⟨k1, j, n, rfl⟩ | ⟨k2, z, rfl⟩ | ⟨k3, s, rfl⟩
    · obtain ⟨j', hd⟩ : ∃ j, kd = .int j := by
        rcases hk with ⟨_, h⟩ | ⟨h, _⟩ | ⟨h, _⟩
        · exact h
        · omega
        · omega
      subst hd
      rcases sameC_ok h1 hc hc' with ⟨k', a, b', e1, e2, rfl⟩ | ⟨a, b', e1, _, _⟩ | ⟨a, b', e1, _, _⟩
      · rw [e1, e2]; exact run_equalIn_int w (dd + d) t k' j' a b' hu
      · cases hc; cases e1
      · cases hc; cases e1
    · have hd : kd = .bool := by
        rcases hk with ⟨h, _⟩ | ⟨_, h⟩ | ⟨h, _⟩
        · omega
        · exact h
        · omega
      subst hd
      rcases sameC_ok h1 hc hc' with ⟨k', a, b', e1, _, _⟩ | ⟨a, b', e1, e2, rfl⟩ | ⟨a, b', e1, _, _⟩
      · cases hc; cases e1
      · rw [e1, e2]; exact run_equalIn_bool w (dd + d) t a b' hu
      · cases hc; cases e1
    · have hd : kd = .string := by
        rcases hk with ⟨h, _⟩ | ⟨h, _⟩ | ⟨_, h⟩
        · omega
        · omega
        · exact h
      subst hd
      rcases sameC_ok h1 hc hc' with ⟨k', a, b', e1, _, _⟩ | ⟨a, b', e1, _, _⟩ | ⟨a, b', e1, e2, rfl⟩
      · obtain ⟨hc, _⟩ := hc; subst hc; cases e1
      · obtain ⟨hc, _⟩ := hc; subst hc; cases e1
      · rw [e1, e2]; exact run_equalIn_string w (dd + d) t a b' hu

theorem kindsT_ok : ∀ (d : Nat) (t : TypeId) (ks : List Nat), kindsT P d t = some ks → FlatEq P d t ks := by
  intro d
  induction d with
  | zero => intro t ks h; cases h
  | succ d ih =>
    intro t ks h
    unfold kindsT at h
    split at h
    · rename_i i k hi hu
      obtain ⟨rfl, hn⟩ := sized_some h
      exact leaf_ok hi hu hn.symm (.inl ⟨rfl, k, rfl⟩)
    · rename_i i hi hu
      obtain ⟨rfl, hn⟩ := sized_some h
      exact leaf_ok hi hu hn.symm (.inr (.inl ⟨rfl, rfl⟩))
    · rename_i i hi hu
      obtain ⟨rfl, hn⟩ := sized_some h
      exact leaf_ok hi hu hn.symm (.inr (.inr ⟨rfl, rfl⟩))
    · rename_i i fs hi hu
      split at h
      · cases h
      · rename_i hst
        split at h
        · rename_i k hk
          obtain ⟨rfl, hn⟩ := sized_some h
          refine ⟨true, by unfold isAggT; rw [hu], by unfold sizeT; rw [hi]; exact congrArg some hn.symm, .inl rfl, fun dd ρ xs ys vx vy b w hx hy he => ?_⟩
          obtain ⟨va, rfl, ha⟩ := hx
          obtain ⟨vb, rfl, hb⟩ := hy
          have hfs : P.fieldsOf t = fs := by simp [Program.fieldsOf, hu]
          rw [show dd + (d + 1) = (dd + d) + 1 from rfl, run_equalIn_struct w (dd + d) t va vb (by rw [hfs]; exact hu) (by simpa using hst), hfs]
          exact eqFields_ok d dd _ ih fs.toList 0 _ hk ρ xs ys va vb b w ha hb he
        · cases h
    · rename_i i n el hi hu
      split at h
      · rename_i k hk
        obtain ⟨rfl, hn⟩ := sized_some h
        obtain ⟨agg, ha, hs, h1, hflat⟩ := ih _ _ hk
        obtain ⟨j, hj, hjs⟩ := sizeT_some hs
        refine ⟨true, by unfold isAggT; rw [hu], by unfold sizeT; rw [hi]; exact congrArg some hn.symm, .inl rfl, fun dd ρ xs ys vx vy b w hx hy he => ?_⟩
        obtain ⟨va, rfl, ha'⟩ := hx
        obtain ⟨vb, rfl, hb'⟩ := hy
        rw [show dd + (d + 1) = (dd + d) + 1 from rfl, run_equalIn_array w (dd + d) va vb hu hj]
        have hc : P.cellsOf el = k.length := by simp [Program.cellsOf, hj, hjs]
        rw [hc, List.range_eq_range']
        exact eqItems_ok d dd el k ⟨agg, ha, hs, h1, hflat⟩ n 0 ρ xs ys va vb b w ha' hb' (by simpa using he)
      · cases h
    · cases h

/-! ### The operators of two values -/

/-- The guard of == lets by what is no nil interface, and no struct or array. -/
theorem guard_free (op : BinOp) (t : TypeId) (x y : Operand) (a b : Value) (w : World) (h : (a ≠ .nilIface ∧ ∀ vs, a ≠ .agg vs)) : (eqGuard op t x y a b).run P w = .ok () w := by
  unfold eqGuard
  cases op <;> first | rfl | skip
  all_goals (cases a <;> first | rfl | (exact absurd rfl h.1) | (exact absurd rfl (h.2 _)))

theorem exec_bin {o : Oper} {op : BinOp} {t u : TypeId} {x y : Operand} (ho : o.op = .binOp op t x y u) (e : Operand → Value) {z : Value} {w : World}
    (hg : (eqGuard op t x y (e x) (e y)).run P w = .ok () w) (hz : (binOp op t (e x) (e y)).run P w = .ok z w) : (execOp e o).run P w = .ok (.value z) w := by
  unfold execOp
  rw [ho]
  simp only [Sem.run_bind, hg, hz, Result.andThen_ok, Sem.run_pure]

theorem isNeq_some {op : BinOp} {b : Bool} (h : isNeq op = some b) : (op = .eql ∧ b = false) ∨ (op = .neq ∧ b = true) := by
  cases op <;> first | (cases h; done) | (cases h; simp)

theorem run_eql_any {op : BinOp} {neg : Bool} (hn : isNeq op = some neg) (t : TypeId) (a b : Value) (w : World) {r : Bool} (hr : (Op.equalIn 10000 t a b).run P w = .ok r w)
    (hb : ∀ op, (op = .eql ∨ op = .neq) → binOp op t a b = (if op = .eql then (do pure (.bool (← Op.equal t a b)) : Sem Value) else (do pure (.bool (!(← Op.equal t a b))) : Sem Value))) :
    (binOp op t a b).run P w = .ok (.bool (if neg then !r else r)) w := by
  rcases isNeq_some hn with ⟨rfl, rfl⟩ | ⟨rfl, rfl⟩
  · rw [hb .eql (.inl rfl)]
    simp only [if_true, Sem.run_bind, Op.equal, Op.maxDepth, hr, Result.andThen_ok, Sem.run_pure, Bool.false_eq_true, if_false]
  · rw [hb .neq (.inr rfl), if_neg (by simp)]
    simp only [Sem.run_bind, Op.equal, Op.maxDepth, hr, Result.andThen_ok, Sem.run_pure, if_true]

section
variable (w : World) (d : Nat) (t : TypeId)
theorem eqIn_ptr1 {el : TypeId} (hu : P.underlying t = some (.pointer el)) (b : Option Addr) : (Op.equalIn (d + 1) t (.pointer none) (.pointer b)).run P w = .ok b.isNone w := by
  cases b <;> simp [Op.equalIn, run_underlying hu]
theorem eqIn_ptr2 {el : TypeId} (hu : P.underlying t = some (.pointer el)) (a : Option Addr) : (Op.equalIn (d + 1) t (.pointer a) (.pointer none)).run P w = .ok a.isNone w := by
  cases a <;> simp [Op.equalIn, run_underlying hu]
theorem eqIn_ptr_same {el : TypeId} {i : TypeInfo} (hu : P.underlying t = some (.pointer el)) (hi : P.info? el = some i) (a : Addr) : (Op.equalIn (d + 1) t (.pointer (some a)) (.pointer (some a))).run P w = .ok true w := by
  simp [Op.equalIn, run_underlying hu, sizeOf, typeInfo, hi, run_sameAddr_same]
theorem eqIn_slc1 {el : TypeId} (hu : P.underlying t = some (.slice el)) (b : Option Addr) (i j k l : Nat) : (Op.equalIn (d + 1) t (.slice none i j) (.slice b k l)).run P w = .ok b.isNone w := by
  cases b <;> simp [Op.equalIn, run_underlying hu]
theorem eqIn_slc2 {el : TypeId} (hu : P.underlying t = some (.slice el)) (a : Option Addr) (i j k l : Nat) : (Op.equalIn (d + 1) t (.slice a i j) (.slice none k l)).run P w = .ok a.isNone w := by
  cases a <;> simp [Op.equalIn, run_underlying hu]
theorem eqIn_map1 {k el : TypeId} (hu : P.underlying t = some (.map k el)) (b : Option Nat) : (Op.equalIn (d + 1) t (.map none) (.map b)).run P w = .ok b.isNone w := by
  cases b <;> simp [Op.equalIn, run_underlying hu]
theorem eqIn_map2 {k el : TypeId} (hu : P.underlying t = some (.map k el)) (a : Option Nat) : (Op.equalIn (d + 1) t (.map a) (.map none)).run P w = .ok a.isNone w := by
  cases a <;> simp [Op.equalIn, run_underlying hu]
theorem eqIn_fn0 {x y : Array TypeId} {v : Bool} (hu : P.underlying t = some (.func x y v)) : (Op.equalIn (d + 1) t .nilFunc .nilFunc).run P w = .ok true w := by
  simp [Op.equalIn, run_underlying hu]
theorem eqIn_fn1 {x y : Array TypeId} {v : Bool} (hu : P.underlying t = some (.func x y v)) (f : Fn) (a b : Array Value) : (Op.equalIn (d + 1) t .nilFunc (.func f a b)).run P w = .ok false w := by
  simp [Op.equalIn, run_underlying hu]
theorem eqIn_fn2 {x y : Array TypeId} {v : Bool} (hu : P.underlying t = some (.func x y v)) (f : Fn) (a b : Array Value) : (Op.equalIn (d + 1) t (.func f a b) .nilFunc).run P w = .ok false w := by
  simp [Op.equalIn, run_underlying hu]
end

/-- == and != of values that are no numbers, texts. -/
def EqForm (t : TypeId) (va vb : Value) : Prop := ∀ op, (op = .eql ∨ op = .neq) →
  binOp op t va vb = (if op = .eql then (do pure (.bool (← Op.equal t va vb)) : Sem Value) else (do pure (.bool (!(← Op.equal t va vb))) : Sem Value))

theorem refEq_ok {psz : Bool} {ty : Option TypeDesc} {a b : RV} {neg : Bool} {m m' : M} {v : AV} (h : refEq psz ty a b neg m = .ok v m') {t : TypeId} (ht : P.underlying t = ty) (hps : psz = true → ∀ el, ty = some (.pointer el) → ∃ i, P.info? el = some i) {va vb : Value} (ha : RR ρ a va) (hb : RR ρ b vb) (w : World) :
    m' = m ∧ (va ≠ .nilIface ∧ ∀ vs, va ≠ .agg vs) ∧ ∃ r : Bool, v = .c (.bool (if neg then !r else r)) ∧ (Op.equalIn 10000 t va vb).run P w = .ok r w ∧ EqForm t va vb := by
  have e : ∀ {va vb : Value} {r : Bool} {v : AV}, okB (if neg then !r else r) m = .ok v m' → (va ≠ .nilIface ∧ ∀ vs, va ≠ .agg vs) → (Op.equalIn 10000 t va vb).run P w = .ok r w → EqForm t va vb →
      m' = m ∧ (va ≠ .nilIface ∧ ∀ vs, va ≠ .agg vs) ∧ ∃ r : Bool, v = .c (.bool (if neg then !r else r)) ∧ (Op.equalIn 10000 t va vb).run P w = .ok r w ∧ EqForm t va vb := by
    intro va vb r v h1 h2 h3 h4
    rw [okB_eq] at h1; cases h1
    exact ⟨rfl, h2, r, rfl, h3, h4⟩
  have n1 : ∀ {v : AV}, okB (!neg) m = .ok v m' → okB (if neg then !true else true) m = .ok v m' := fun h => by cases neg <;> exact h
  have n2 : ∀ {v : AV}, okB neg m = .ok v m' → okB (if neg then !false else false) m = .ok v m' := fun h => by cases neg <;> exact h
  unfold refEq at h
  split at h
  · cases ha; cases hb
    exact e (n1 h) ⟨by simp, by simp⟩ (eqIn_ptr1 w 9999 t ht none) (fun op hop => by rcases hop with rfl | rfl <;> rfl)
  · obtain ⟨s, _, rfl⟩ := hb; cases ha
    exact e (n2 h) ⟨by simp, by simp⟩ (eqIn_ptr1 w 9999 t ht _) (fun op hop => by rcases hop with rfl | rfl <;> rfl)
  · obtain ⟨s, _, rfl⟩ := ha; cases hb
    exact e (n2 h) ⟨by simp, by simp⟩ (eqIn_ptr2 w 9999 t ht _) (fun op hop => by rcases hop with rfl | rfl <;> rfl)
  · rw [iff_eq] at h
    split at h
    · rename_i hc
      simp only [Bool.and_eq_true] at hc
      have h1 := Nat.eq_of_beq_eq_true hc.1.2
      have h2 := Nat.eq_of_beq_eq_true hc.2
      subst h1; subst h2
      obtain ⟨s1, hs1, rfl⟩ := ha
      obtain ⟨s2, hs2, rfl⟩ := hb
      simp only at hs1 hs2
      rw [hs1] at hs2; cases hs2
      obtain ⟨jn, hj⟩ := hps hc.1.1 _ rfl
      exact e (n1 h) ⟨by simp, by simp⟩ (eqIn_ptr_same w 9999 t ht hj _) (fun op hop => by rcases hop with rfl | rfl <;> rfl)
    · cases h
  · cases ha; cases hb
    exact e (n1 h) ⟨by simp, by simp⟩ (eqIn_slc1 w 9999 t ht none _ _ _ _) (fun op hop => by rcases hop with rfl | rfl <;> rfl)
  · obtain ⟨s, _, rfl⟩ := hb; cases ha
    exact e (n2 h) ⟨by simp, by simp⟩ (eqIn_slc1 w 9999 t ht _ _ _ _ _) (fun op hop => by rcases hop with rfl | rfl <;> rfl)
  · obtain ⟨s, _, rfl⟩ := ha; cases hb
    exact e (n2 h) ⟨by simp, by simp⟩ (eqIn_slc2 w 9999 t ht _ _ _ _ _) (fun op hop => by rcases hop with rfl | rfl <;> rfl)
  · obtain ⟨s, _, rfl⟩ := hb; cases ha
    exact e (n2 h) ⟨by simp, by simp⟩ (eqIn_slc1 w 9999 t ht _ _ _ _ _) (fun op hop => by rcases hop with rfl | rfl <;> rfl)
  · obtain ⟨s, _, rfl⟩ := ha; cases hb
    exact e (n2 h) ⟨by simp, by simp⟩ (eqIn_slc2 w 9999 t ht _ _ _ _ _) (fun op hop => by rcases hop with rfl | rfl <;> rfl)
  · obtain ⟨s, _, rfl⟩ := hb; cases ha
    exact e (n2 h) ⟨by simp, by simp⟩ (eqIn_slc1 w 9999 t ht _ _ _ _ _) (fun op hop => by rcases hop with rfl | rfl <;> rfl)
  · obtain ⟨s, _, rfl⟩ := ha; cases hb
    exact e (n2 h) ⟨by simp, by simp⟩ (eqIn_slc2 w 9999 t ht _ _ _ _ _) (fun op hop => by rcases hop with rfl | rfl <;> rfl)
  · obtain ⟨s, rfl⟩ := hb; cases ha
    exact e (n2 h) ⟨by simp, by simp⟩ (eqIn_slc1 w 9999 t ht _ _ _ _ _) (fun op hop => by rcases hop with rfl | rfl <;> rfl)
  · obtain ⟨s, rfl⟩ := ha; cases hb
    exact e (n2 h) ⟨by simp, by simp⟩ (eqIn_slc2 w 9999 t ht _ _ _ _ _) (fun op hop => by rcases hop with rfl | rfl <;> rfl)
  · cases ha; cases hb
    exact e (n1 h) ⟨by simp, by simp⟩ (eqIn_map1 w 9999 t ht none) (fun op hop => by rcases hop with rfl | rfl <;> rfl)
  · obtain ⟨s, _, rfl⟩ := hb; cases ha
    exact e (n2 h) ⟨by simp, by simp⟩ (eqIn_map1 w 9999 t ht _) (fun op hop => by rcases hop with rfl | rfl <;> rfl)
  · obtain ⟨s, _, rfl⟩ := ha; cases hb
    exact e (n2 h) ⟨by simp, by simp⟩ (eqIn_map2 w 9999 t ht _) (fun op hop => by rcases hop with rfl | rfl <;> rfl)
  · cases ha; cases hb
    exact e (n1 h) ⟨by simp, by simp⟩ (eqIn_fn0 w 9999 t ht) (fun op hop => by rcases hop with rfl | rfl <;> rfl)
  · obtain ⟨p, q, rfl, _⟩ := hb; cases ha
    exact e (n2 h) ⟨by simp, by simp⟩ (eqIn_fn1 w 9999 t ht _ _ _) (fun op hop => by rcases hop with rfl | rfl <;> rfl)
  · obtain ⟨p, q, rfl, _⟩ := ha; cases hb
    exact e (n2 h) ⟨by simp, by simp⟩ (eqIn_fn2 w 9999 t ht _ _ _) (fun op hop => by rcases hop with rfl | rfl <;> rfl)
  · cases h

theorem binD_ok {o : Oper} {op : BinOp} {t u : TypeId} {x y : Operand} (ho : o.op = .binOp op t x y u) {D : Nat} : OpOK P o (binD P o op t x y (D := D)) := by
  have hsel : ∀ cs b, o.op ≠ .select cs b := fun cs b h => by rw [ho] at h; cases h
  -- shifts
  have shift : ∀ (left : Bool), op = (if left then .shl else .shr) → OpOK P o (⟨fun _ e m => sh0 left ((evO P x).f e) ((evO P y).f e) m⟩ : OpF D) := by
    intro left hop c e m v m' h B0 A N ρ a w hw _ hr he _
    replace h : sh0 left ((evO P x).f e) ((evO P y).f e) m = .ok v m' := h
    have hx := he.eval hr.glob x
    have hy := he.eval hr.glob y
    unfold sh0 at h
    split at h
    · rename_i k p hxe
      rw [hxe] at hx
      unfold shK at h
      split at h
      · rename_i k' q hye
        rw [hye] at hy
        rcases nat2_ok h with ⟨i, j, rfl, rfl, h1⟩ | h1
        · have hy0 : ¬ (Int.ofNat j < 0) := by simp only [Int.ofNat_eq_natCast]; omega
          have hx' : a.eval x = .int k (Int.ofNat i) := hx
          have hy' : a.eval y = .int k' (Int.ofNat j) := hy
          cases left with
          | true =>
            have hop : op = .shl := hop
            subst hop
            replace h1 : num (Nat.mul i (Nat.pow 2 (min j k.bits))) (fun r => wrapNat k r m) = .ok v m' := h1
            rw [num_eq, wrapNat_eq] at h1
            cases h1
            refine ⟨_, w, ρ, .inl (exec_bin ho a.eval (z := .int k (k.wrap (Int.ofNat (Nat.mul i (Nat.pow 2 (min j k.bits)))))) (guard_free _ _ _ _ _ _ _ ⟨by rw [hx']; simp, by rw [hx']; simp⟩) ?_), Done.pure hw hr rfl⟩
            rw [hx', hy']
            simp only [binOp, Op.shift, hy0, if_false]
            have : Int.ofNat i * 2 ^ min (Int.ofNat j).toNat k.bits = Int.ofNat (i.mul (Nat.pow 2 (min j k.bits))) := by
              show (i : Int) * 2 ^ min j k.bits = ((i * 2 ^ min j k.bits : Nat) : Int)
              simp
            rw [this]; rfl
          | false =>
            have hop : op = .shr := hop
            subst hop
            replace h1 : num (Nat.div i (Nat.pow 2 (min j k.bits))) (fun r => RO.ok (.c (.int k (.ofNat r))) m) = .ok v m' := h1
            rw [num_eq] at h1
            cases h1
            refine ⟨_, w, ρ, .inl (exec_bin ho a.eval (z := .int k (Int.ofNat (Nat.div i (Nat.pow 2 (min j k.bits))))) (guard_free _ _ _ _ _ _ _ ⟨by rw [hx']; simp, by rw [hx']; simp⟩) ?_), Done.pure hw hr rfl⟩
            rw [hx', hy']
            simp only [binOp, Op.shift, hy0, if_false]
            have : (Int.ofNat i).fdiv (2 ^ min (Int.ofNat j).toNat k.bits) = Int.ofNat (i.div (Nat.pow 2 (min j k.bits))) := by
              show (i : Int).fdiv (2 ^ min j k.bits) = ((i / 2 ^ min j k.bits : Nat) : Int)
              have e : ((2 : Int) ^ min j k.bits) = ((2 ^ min j k.bits : Nat) : Int) := by simp
              rw [e, Int.ofNat_fdiv]
            rw [this]; rfl
        · cases h1
      · cases h
    · cases h
  -- the others
  have rest : OpOK P o (⟨fun c e m => bin0 ((genOp P o).f c e m) (binB P op t) ((evO P x).f e) ((evO P y).f e) m⟩ : OpF D) := by
    intro c e m v m' h B0 A N ρ a w hw hin hr he hf
    replace h : bin0 ((genOp P o).f c e m) (binB P op t) ((evO P x).f e) ((evO P y).f e) m = .ok v m' := h
    have gen : (genOp P o).f c e m = .ok v m' → ∃ x w' ρ', Runs P o a w x w' ∧ Done P B0 A ρ m w v m' x w' ρ' := fun h => genOp_ok o hsel c e m v m' h B0 A N ρ a w hw hin hr he hf
    have hx := he.eval hr.glob x
    have hy := he.eval hr.glob y
    cases hxe : (evO P x).f e with
    | top => rw [hxe] at h; cases h
    | tup l => rw [hxe] at h; cases h
    | agg xs =>
      cases hye : (evO P y).f e with
      | top => rw [hxe, hye] at h; cases h
      | tup l => rw [hxe, hye] at h; cases h
      | c d => rw [hxe, hye] at h; cases h
      | agg ys =>
        rw [hxe, hye] at h
        rw [hxe] at hx; rw [hye] at hy
        replace h : binAgg ((genOp P o).f c e m) (binB P op t) xs ys m = .ok v m' := h
        unfold binAgg at h
        split at h
        · rename_i ks hks
          split at h
          · rename_i neg hneg
            have hks : flatK P t = some ks := hks
            have hneg : isNeq op = some neg := hneg
            unfold flatK at hks
            split at hks
            · rename_i hguard haggt
              unfold aggEq at h
              split at h
              · rename_i b hb
                obtain ⟨agg, ha, hs, h1, hflat⟩ := kindsT_ok 100 t ks hks
                obtain ⟨vx, hvx, hxs⟩ := hx
                obtain ⟨vy, hvy, hys⟩ := hy
                rw [okB_eq] at h
                cases h
                rw [haggt] at ha; cases ha
                have hrun := hflat 9900 ρ xs ys (.agg vx) (.agg vy) b w ⟨vx, rfl, hxs⟩ ⟨vy, rfl, hys⟩ hb
                have hrun : (Op.equalIn 10000 t (.agg vx) (.agg vy)).run P w = .ok b w := hrun
                have hfin := run_eql_any hneg t (.agg vx) (.agg vy) w hrun (fun op hop => by rcases hop with rfl | rfl <;> rfl)
                refine ⟨_, w, ρ, .inl (exec_bin ho a.eval (z := .bool (if neg then !b else b)) ?_ (by rw [hvx, hvy]; exact hfin)), Done.pure hw hr ?_⟩
                · rw [hvx, hvy]; exact run_eqGuard_agg w op t x y vx vy hguard
                · show _ = _; rw [iff_eq]
              · cases h
            · cases hks
          · exact gen h
        · exact gen h
    | c p =>
      cases hye : (evO P y).f e with
      | top => rw [hxe, hye] at h; cases h
      | tup l => rw [hxe, hye] at h; cases h
      | agg ys => rw [hxe, hye] at h; cases h
      | c q =>
        rw [hxe, hye] at h
        rw [hxe] at hx; rw [hye] at hy
        replace h : binC ((genOp P o).f c e m) (binB P op t) p q m = .ok v m' := h
        cases p with
        | int k i =>
          cases q with
          | int k' j =>
            replace h : iff (kEq k k') ((intF P op).f k i j m) (.fail [9]) = .ok v m' := h
            rw [iff_eq] at h
            split at h
            · rename_i hk
              have hk := of_decide_eq_true hk
              subst hk
              obtain ⟨rfl, z, hz, hv⟩ := intF_ok op k i j m v m' h
              replace hx : a.eval x = .int k i := hx
              replace hy : a.eval y = .int k j := hy
              exact ⟨z, w, ρ, .inl (exec_bin ho a.eval (guard_free _ _ _ _ _ _ _ ⟨by rw [hx]; simp, by rw [hx]; simp⟩) (by rw [hx, hy]; exact hz t w)), Done.pure hw hr (hv ρ)⟩
            · cases h
          | bool _ => cases h
          | str _ => cases h
          | ref _ => cases h
        | bool i =>
          replace h : binBool (binB P op t) i q m = .ok v m' := h
          unfold binBool at h
          split at h
          · rename_i j
            split at h
            · rename_i hty
              split at h
              · rename_i neg hneg
                replace hx : a.eval x = .bool i := hx
                replace hy : a.eval y = .bool j := hy
                have hty : P.underlying t = some .bool := hty
                unfold boolEq at h
                rw [okB_eq] at h
                cases h
                have hrun : (Op.equalIn 10000 t (.bool i) (.bool j)).run P w = .ok (i == j) w := run_equalIn_bool w 9999 t i j hty
                have hfin := run_eql_any hneg t (.bool i) (.bool j) w hrun (fun op hop => by rcases hop with rfl | rfl <;> rfl)
                refine ⟨_, w, ρ, .inl (exec_bin ho a.eval (z := .bool (if neg then !(i == j) else (i == j))) (guard_free _ _ _ _ _ _ _ ⟨by rw [hx]; simp, by rw [hx]; simp⟩) (by rw [hx, hy]; exact hfin)), Done.pure hw hr ?_⟩
                show _ = _
                cases neg <;> cases i <;> cases j <;> rfl
              · cases h
            · cases h
          · cases h
        | str i =>
          cases q with
          | str j =>
            replace h : (strF op).f i j m = .ok v m' := h
            obtain ⟨rfl, z, hz, hv⟩ := strF_ok (P := P) op hx.2 hy.2 h
            have hx1 := hx.1
            have hy1 := hy.1
            exact ⟨z, w, ρ, .inl (exec_bin ho a.eval (guard_free _ _ _ _ _ _ _ ⟨by rw [hx1]; simp [strV], by rw [hx1]; simp [strV]⟩) (by rw [hx1, hy1]; exact hz t w)), Done.pure hw hr (hv ρ)⟩
          | int _ _ => cases h
          | bool _ => cases h
          | ref _ => cases h
        | ref i =>
          replace h : binRef ((genOp P o).f c e m) (binB P op t) i q m = .ok v m' := h
          unfold binRef at h
          split at h
          · rename_i j
            rw [iff_eq] at h
            split at h
            · exact gen h
            · split at h
              · rename_i neg hneg
                obtain ⟨rfl, hfree, r, rfl, hrun, hform⟩ := refEq_ok h (t := t) rfl (fun hp el hel => by
                  have hp : pszT P t = true := hp
                  have hel : P.underlying t = some (.pointer el) := hel
                  unfold pszT at hp
                  rw [hel] at hp
                  exact Option.isSome_iff_exists.1 hp) hx hy w
                exact ⟨_, w, ρ, .inl (exec_bin ho a.eval (guard_free _ _ _ _ _ _ _ hfree) (run_eql_any hneg t _ _ w hrun hform)), Done.pure hw hr rfl⟩
              · cases h
          · cases h
  cases op <;> first | exact rest | exact shift true rfl | exact shift false rfl

end Go.CE
