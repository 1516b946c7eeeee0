/- Maps. No program is named. -/
import Derived.Test.YtjaklcmadkpmdaaDoorCeL
noncomputable section
namespace Go.CE
open Go

variable {P : Program} {B0 : Nat} {A W W' : Nat → Prop} {ρ ρ' ρ'' : Rho} {m m' m'' : M} {w w' w'' : World}

theorem bytes_beq (a b : ByteArray) : (a == b) = (a.toList == b.toList) := by
  rw [ByteArray.toList_eq, ByteArray.toList_eq]
  show (a.data == b.data) = _
  rw [Bool.eq_iff_iff, beq_iff_eq, beq_iff_eq]
  exact Array.toList_inj.symm

theorem bytes_eq {a b : ByteArray} (h : (a == b) = true) : a = b := by
  rw [bytes_beq, beq_iff_eq, ByteArray.toList_eq, ByteArray.toList_eq] at h
  exact ByteArray.ext (Array.toList_inj.1 h)

theorem bytes_refl (a : ByteArray) : (a == a) = true := by rw [bytes_beq]; exact BEq.rfl

/-- Keys that are told apart at once: what the model says of them. -/
theorem sameNow_ok {kind : TypeDesc} {k c : CV} {vk vc : Value} (hk : keyKind (some kind) k = true) (hvk : CR ρ k vk) (hvc : CR ρ c vc) {b : Bool} (h : sameC k c = some b) : Instr.sameNow kind vk vc = some b ∧ (b = true → Instr.sameBits 10000 vc vk = true) := by
  unfold keyKind at hk
  split at hk
  · rename_i j hj
    cases hj
    split at hk
    · rename_i i n
      rcases sameC_ok h hvk hvc with ⟨k', a, d, h1, h2, h3⟩ | ⟨a, d, h1, _⟩ | ⟨s, t, h1, _⟩
      · have hvk : vk = .int i n := hvk
        rw [h1, h2]
        refine ⟨by simp [Instr.sameNow, h3], fun hb => ?_⟩
        rw [h3] at hb
        have := eq_of_beq hb
        subst this
        simp [Instr.sameBits]
      · have hvk : vk = .int i n := hvk
        rw [hvk] at h1; cases h1
      · have hvk : vk = .int i n := hvk
        rw [hvk] at h1; cases h1
    · cases hk
  · rename_i hj
    cases hj
    split at hk
    · rename_i s0
      rcases sameC_ok h hvk hvc with ⟨k', a, d, h1, _⟩ | ⟨a, d, h1, _⟩ | ⟨s, t, h1, h2, h3⟩
      · have hvk : vk = .string (bytesOf s0) := hvk.1
        rw [hvk] at h1; cases h1
      · have hvk : vk = .string (bytesOf s0) := hvk.1
        rw [hvk] at h1; cases h1
      · rw [h1, h2]
        refine ⟨by simp only [Instr.sameNow, bytes_beq, h3], fun hb => ?_⟩
        rw [h3, ← bytes_beq] at hb
        have := bytes_eq hb
        subst this
        simp only [Instr.sameBits]
        exact bytes_refl s
    · cases hk
  · cases hk

/-- A key of several cells. -/
def isAg : TV → Bool
  | .c _ => false
  | .agg _ => true

/-- What a search from an entry on comes to: at once, or asking cell by cell. -/
def Finds (P : Program) (st : Bool) (kt : TypeId) (kind : TypeDesc) (vk : Value) (ents : List MapEntry) (i : Nat) (res : Option (Nat × Value)) : Prop :=
  match st with
  | false => Instr.findNow kind vk ents i = some res
  | true => ∀ w, (Instr.findAsking kt vk ents i).run P w = .ok res w

/-- What two keys come to. -/
def Cmps (P : Program) (st : Bool) (kt : TypeId) (kind : TypeDesc) (vk vc : Value) (b : Bool) : Prop :=
  match st with
  | false => Instr.sameNow kind vk vc = some b
  | true => ∀ w, (Op.equal kt vk vc).run P w = .ok b w

theorem Finds.nil {st : Bool} {kt : TypeId} {kind : TypeDesc} {vk : Value} (i : Nat) : Finds P st kt kind vk [] i none := by
  cases st with
  | false => rfl
  | true => intro w; rfl

theorem Finds.here {st : Bool} {kt : TypeId} {kind : TypeDesc} {vk : Value} {y : MapEntry} {ents : List MapEntry} {i : Nat} (h : Cmps P st kt kind vk y.key true) : Finds P st kt kind vk (y :: ents) i (some (i, y.val)) := by
  cases st with
  | false =>
    have h : Instr.sameNow kind vk y.key = some true := h
    show (match Instr.sameNow kind vk y.key with
        | some true => some (some (i, y.val))
        | some false => Instr.findNow kind vk ents (i + 1)
        | none => none) = _
    rw [h]
  | true =>
    intro w
    have h := h w
    simp only [Instr.findAsking, Sem.run_bind, h, Result.andThen_ok, if_true, Sem.run_pure]

theorem Finds.later {st : Bool} {kt : TypeId} {kind : TypeDesc} {vk : Value} {y : MapEntry} {ents : List MapEntry} {i : Nat} {res : Option (Nat × Value)} (h : Cmps P st kt kind vk y.key false) (hf : Finds P st kt kind vk ents (i + 1) res) : Finds P st kt kind vk (y :: ents) i res := by
  cases st with
  | false =>
    have h : Instr.sameNow kind vk y.key = some false := h
    show (match Instr.sameNow kind vk y.key with
        | some true => some (some (i, y.val))
        | some false => Instr.findNow kind vk ents (i + 1)
        | none => none) = _
    rw [h]
    exact hf
  | true =>
    intro w
    have h := h w
    have hf := hf w
    simp only [Instr.findAsking, Sem.run_bind, h, Result.andThen_ok, Bool.false_eq_true, if_false]
    exact hf

theorem keyKs_some {kt : TypeId} {ks : List Nat} (h : keyKs P kt = some ks) : ∃ fs, P.underlying kt = some (.struct fs) ∧ (∀ f ∈ fs.toList, scalarT P f.type = true) ∧ kindsT P 100 kt = some ks := by
  unfold keyKs at h
  split at h
  · rename_i fs hu
    split at h
    · rename_i hall
      exact ⟨fs, hu, fun f hf => List.all_eq_true.1 hall f hf, h⟩
    · cases h
  · cases h

/-- Cells that are alike are alike bit by bit. -/
theorem eqKs_bits (n : Nat) : ∀ {ks : List Nat} {xs ys : List CV} {va vb : List Value}, eqKs ks xs ys = some true → All2 (CR ρ) xs va → All2 (CR ρ) ys vb →
    va.length = vb.length ∧ (vb.zip va).all (fun (x, y) => Instr.sameBits n x y) = true
  | [], xs, ys, va, vb, h, ha, hb => by
    obtain ⟨rfl, rfl, _⟩ := eqKs_nil h
    cases va with
    | nil => cases vb with
      | nil => exact ⟨rfl, rfl⟩
      | cons _ _ => exact hb.elim
    | cons _ _ => exact ha.elim
  | k :: ks, xs, ys, va, vb, h, ha, hb => by
    obtain ⟨x, xr, y, yr, p, q, rfl, rfl, _, h1, h2, h3⟩ := eqKs_some h
    have h3 := h3.symm
    rw [Bool.and_eq_true] at h3
    obtain ⟨rfl, rfl⟩ := h3
    cases va with
    | nil => exact ha.elim
    | cons v va => cases vb with
      | nil => exact hb.elim
      | cons u vb =>
        obtain ⟨i1, i2⟩ := eqKs_bits n h2 ha.2 hb.2
        refine ⟨by simp [i1], ?_⟩
        rw [List.zip_cons_cons, List.all_cons, i2, Bool.and_true]
        show Instr.sameBits n u v = true
        rcases sameC_ok h1 ha.1 hb.1 with ⟨k', a, d, e1, e2, e3⟩ | ⟨a, d, e1, e2, e3⟩ | ⟨s, t, e1, e2, e3⟩
        · rw [e1, e2]
          have := eq_of_beq e3.symm
          subst this
          cases n <;> simp [Instr.sameBits]
        · rw [e1, e2]
          have := eq_of_beq e3.symm
          subst this
          cases n <;> simp [Instr.sameBits]
        · rw [e1, e2]
          rw [← bytes_beq] at e3
          have := bytes_eq e3.symm
          subst this
          cases n <;> (simp only [Instr.sameBits]; exact bytes_refl s)

/-- Two keys compared. -/
theorem sameK_ok {kt : TypeId} {kind : TypeDesc} {k c : TV} {vk vc : Value} (hkd : P.underlying kt = some kind) (hk : keyOk P kt k = true) (hvk : TR ρ k vk) (hvc : TR ρ c vc) {b : Bool} (h : sameK (keyKs P kt) k c = some b) :
    Cmps P (isAg k) kt kind vk vc b ∧ (b = true → Instr.sameBits 10000 vc vk = true) := by
  cases k with
  | c k => cases c with
    | agg l => cases h
    | c c =>
      have hk : keyKind (P.underlying kt) k = true := hk
      rw [hkd] at hk
      exact sameNow_ok hk hvk hvc h
  | agg k => cases c with
    | c c => cases h
    | agg l =>
      have h : (match keyKs P kt with
        | some ks => eqKs ks k l
        | none => none) = some b := h
      split at h
      · rename_i ks hks
        obtain ⟨fs, _, _, hkt⟩ := keyKs_some hks
        obtain ⟨agg, ha, _, _, hflat⟩ := kindsT_ok 100 kt ks hkt
        obtain ⟨va, rfl, hva⟩ := hvk
        obtain ⟨vb, rfl, hvb⟩ := hvc
        have hagg : agg = true := by
          unfold isAggT at ha
          obtain ⟨fs, hu, _⟩ := keyKs_some hks
          rw [hu] at ha; cases ha; rfl
        subst hagg
        refine ⟨fun w => ?_, fun hb => ?_⟩
        · exact hflat 9900 ρ k l _ _ b w ⟨va, rfl, hva⟩ ⟨vb, rfl, hvb⟩ h
        · subst hb
          obtain ⟨i1, i2⟩ := eqKs_bits 9999 h hva hvb
          show (vb.size == va.size && (vb.toList.zip va.toList).all fun (x, y) => Instr.sameBits 9999 x y) = true
          rw [i2, Bool.and_true, beq_iff_eq, ← Array.length_toList, ← Array.length_toList, i1]
      · cases h

def findG {β : Type} (bad : β) (ks : Option (List Nat)) (key : TV) (no : β) (yes : Nat → TV → β) (es : List MapE) : Nat → β :=
  List.rec (motive := fun _ => Nat → β) (fun _ => no) (fun x _ ih i => stepM bad (sameK ks key x.key) (yes i x.val) (num (Nat.succ i) ih)) es

theorem findG_ok {β : Type} {kt : TypeId} {kind : TypeDesc} {key : TV} (hkd : P.underlying kt = some kind) (hk : keyOk P kt key = true) (bad no : β) (yes : Nat → TV → β) : ∀ (es : List MapE) (i : Nat),
    findG bad (keyKs P kt) key no yes es i = bad ∨ (findG bad (keyKs P kt) key no yes es i = no ∧ ∀ (ρ : Rho) (vk : Value) (ents : List MapEntry), TR ρ key vk → All2 (ERel ρ) es ents → Finds P (isAg key) kt kind vk ents i none) ∨
      ∃ j x, findG bad (keyKs P kt) key no yes es i = yes (i + j) x.val ∧ es[j]? = some x ∧ ∀ (ρ : Rho) (vk : Value) (ents : List MapEntry), TR ρ key vk → All2 (ERel ρ) es ents →
        ∃ y, ents[j]? = some y ∧ ERel ρ x y ∧ Finds P (isAg key) kt kind vk ents i (some (i + j, y.val)) ∧ Instr.sameBits 10000 y.key vk = true
  | [], i => .inr (.inl ⟨rfl, fun ρ vk ents _ h => by
      cases ents with
      | nil => exact Finds.nil i
      | cons _ _ => exact h.elim⟩)
  | x :: es, i => by
    have e : findG bad (keyKs P kt) key no yes (x :: es) i = stepM bad (sameK (keyKs P kt) key x.key) (yes i x.val) (findG bad (keyKs P kt) key no yes es (i + 1)) := rfl
    rw [e]
    cases hs : sameK (keyKs P kt) key x.key with
    | none => exact .inl rfl
    | some b =>
      show iff b (yes i x.val) (findG bad (keyKs P kt) key no yes es (i + 1)) = bad ∨ _
      cases b with
      | true =>
        refine .inr (.inr ⟨0, x, rfl, rfl, fun ρ vk ents hvk hall => ?_⟩)
        cases ents with
        | nil => exact hall.elim
        | cons y ents =>
          obtain ⟨h1, h2⟩ := sameK_ok hkd hk hvk hall.1.key hs
          exact ⟨y, rfl, hall.1, Finds.here h1, h2 rfl⟩
      | false =>
        rcases findG_ok hkd hk bad no yes es (i + 1) with h3 | ⟨h3, h4⟩ | ⟨j, x', h3, h4, h5⟩
        · exact .inl h3
        · refine .inr (.inl ⟨h3, fun ρ vk ents hvk hall => ?_⟩)
          cases ents with
          | nil => exact hall.elim
          | cons y ents =>
            obtain ⟨h1, _⟩ := sameK_ok hkd hk hvk hall.1.key hs
            exact Finds.later h1 (h4 ρ vk ents hvk hall.2)
        · refine .inr (.inr ⟨j + 1, x', ?_, by simpa using h4, fun ρ vk ents hvk hall => ?_⟩)
          · rw [show i + (j + 1) = i + 1 + j by omega]; exact h3
          · cases ents with
            | nil => exact hall.elim
            | cons y ents =>
              obtain ⟨h1, _⟩ := sameK_ok hkd hk hvk hall.1.key hs
              obtain ⟨y', a, b, c, d⟩ := h5 ρ vk ents hvk hall.2
              refine ⟨y', by simpa using a, b, ?_, d⟩
              rw [show i + (j + 1) = i + 1 + j by omega]
              exact Finds.later h1 c

theorem setM_eq {β : Type} (key : TV) (val : TV) : ∀ (es : List MapE) (i : Nat) (k : List MapE → β), setM i key val es k = k (es.modify i fun x => ⟨key, val, x.born⟩)
  | [], i, k => by cases i <;> rfl
  | x :: r, 0, k => rfl
  | x :: r, i + 1, k => by
    have e : setM (i + 1) key val (x :: r) k = setM i key val r fun r => k (x :: r) := rfl
    rw [e, setM_eq key val r i]; rfl

theorem pushM_eq {β : Type} (x : MapE) : ∀ (es : List MapE) (k : List MapE → β), pushM x es k = k (es ++ [x])
  | [], _ => rfl
  | y :: r, k => by
    have e : pushM x (y :: r) k = pushM x r fun r => k (y :: r) := rfl
    rw [e, pushM_eq x r]; rfl

theorem keyOf_ok {v : AV} {bad : RO} {k : TV → RO} {r : RO} (h : keyOf v bad k = r) : bad = r ∨ ∃ c, v = avOf c ∧ k c = r ∧ ∀ (ρ : Rho) (x : Value), AR ρ v x → TR ρ c x := by
  cases v with
  | c c => exact .inr ⟨.c c, rfl, h, fun _ _ h => h⟩
  | agg l => exact .inr ⟨.agg l, rfl, h, fun _ _ h => h⟩
  | _ => exact .inl h

theorem tvOf_ok {β : Type} {v : AV} {bad : β} {k : TV → β} {r : β} (h : tvOf v bad k = r) : bad = r ∨ ∃ t, k t = r ∧ v = avOf t ∧ ∀ (ρ : Rho) (x : Value), AR ρ v x → TR ρ t x := by
  cases v with
  | c c => exact .inr ⟨.c c, h, rfl, fun _ _ h => h⟩
  | agg l => exact .inr ⟨.agg l, h, rfl, fun _ _ h => h⟩
  | _ => exact .inl h

theorem checkFields (em : Bool) (n : Nat) (w : World) (kinds : TypeId → Option (List Nat)) (d : Nat) (hkf : ∀ t ks, kinds t = some ks → FlatEq P d t ks) (ρ : Rho) (xs : List CV) (va : Array Value) (hva : All2 (CR ρ) xs va.toList) :
    ∀ (fs : List Field) (off : Nat) (ks : List Nat) (b : Bool), kindsFs kinds fs off = some ks → (∀ f ∈ fs, scalarT P f.type = true) → eqKs ks (xs.drop off) (xs.drop off) = some b →
      (forIn fs PUnit.unit fun f (_ : PUnit) =>
        if f.name ≠ "_" then do
          let x ← part f.type va f.offset
          Instr.checkKey em (n + 1) f.type x
          pure (ForInStep.yield PUnit.unit)
        else pure (ForInStep.yield PUnit.unit) : Sem PUnit).run P w = .ok () w
  | [], off, ks, b, h, _, he => by simp
  | f :: fs, off, ks, b, h, hall, he => by
    unfold kindsFs at h
    split at h
    · rename_i hf
      simp only [Bool.and_eq_true, bne_iff_ne, beq_iff_eq] at hf
      split at h
      · rename_i k1 hk1
        split at h
        · rename_i l hl
          cases h
          obtain ⟨agg, ha, hs, h1, _⟩ := hkf _ _ hk1
          obtain ⟨p, q, hp, hq, hb⟩ := eqKs_append he
          have hlen := eqKs_length he
          have hxo : k1.length ≤ (xs.drop off).length := by rw [hlen.1]; simp
          obtain ⟨v, hv, hV⟩ := part_ok ha hs h1 hva (off := off) hxo w
          have ih := checkFields em n w kinds d hkf ρ xs va hva fs (off + k1.length) l q hl (fun g hg => hall g (by simp [hg])) (by rw [← List.drop_drop]; exact hq)
          have hck : (Instr.checkKey em (n + 1) f.type v).run P w = .ok () w := by
            have hsc := hall f (by simp)
            unfold scalarT at hsc
            split at hsc
            · rename_i j hu
              unfold Instr.checkKey
              simp only [Sem.run_bind, run_underlying hu, Result.andThen_ok]; rfl
            · rename_i hu
              unfold Instr.checkKey
              simp only [Sem.run_bind, run_underlying hu, Result.andThen_ok]; rfl
            · rename_i hu
              unfold Instr.checkKey
              simp only [Sem.run_bind, run_underlying hu, Result.andThen_ok]; rfl
            · cases hsc
          rw [← hf.2] at hv
          simp only [List.forIn_cons, Sem.run_bind, hf.1, ne_eq, not_false_eq_true, if_true, Result.andThen_ok, hv, hck, Sem.run_pure]
          exact ih
        · cases h
      · cases h
    · cases h

/-- A key that is looked up by its cells need not be checked. -/
theorem run_checkKey {kt : TypeId} {key : TV} (hk : keyOk P kt key = true) (b : Bool) (v : Value) (hv : TR ρ key v) (w : World) : ∃ kind, P.underlying kt = some kind ∧ (Instr.checkKey b 10000 kt v).run P w = .ok () w := by
  cases key with
  | c key =>
    have hk : keyKind (P.underlying kt) key = true := hk
    cases hu : P.underlying kt with
    | none => rw [hu] at hk; cases hk
    | some kind =>
      rw [hu] at hk
      refine ⟨kind, rfl, ?_⟩
      unfold Instr.checkKey
      simp only [Sem.run_bind, run_underlying hu, Result.andThen_ok]
      cases kind <;> first | rfl | (unfold keyKind at hk; cases hk)
  | agg l =>
    have hk : (match keyKs P kt with
      | some ks => (match eqKs ks l l with
        | some _ => true
        | none => false)
      | none => false) = true := hk
    split at hk
    · rename_i ks hks
      split at hk
      · rename_i r hr
        obtain ⟨fs, hu, hall, hkt⟩ := keyKs_some hks
        refine ⟨_, hu, ?_⟩
        obtain ⟨va, rfl, hva⟩ := hv
        have hkf : ∃ k, kindsFs (kindsT P 99) fs.toList 0 = some k ∧ k = ks := by
          unfold kindsT at hkt
          split at hkt
          · rename_i h1; rw [hu] at h1; cases h1
          · rename_i h1; rw [hu] at h1; cases h1
          · rename_i h1; rw [hu] at h1; cases h1
          · rename_i fs' hi h1
            rw [hu] at h1; cases h1
            split at hkt
            · cases hkt
            · split at hkt
              · rename_i k hk'
                obtain ⟨rfl, _⟩ := sized_some hkt
                exact ⟨_, hk', rfl⟩
              · cases hkt
          · rename_i h1; rw [hu] at h1; cases h1
          · cases hkt
        obtain ⟨k, hkf, rfl⟩ := hkf
        have hrun := checkFields b 9998 w (kindsT P 99) 99 (kindsT_ok 99) ρ l va hva fs.toList 0 k r hkf hall hr
        rw [show (10000 : Nat) = 9999 + 1 from rfl, Instr.checkKey]
        simp only [Sem.run_bind, run_underlying hu, Result.andThen_ok]
        rw [← Array.forIn_toList]
        exact (congrArg (fun r => Result.andThen r fun a w' => (pure () : Sem Unit).run P w') hrun).trans rfl
      · cases hk
    · cases hk

/-- What a search comes to, as the model begins it. -/
theorem Finds.key {kt : TypeId} {kind : TypeDesc} {key : TV} {vk : Value} {ents : List MapEntry} {res : Option (Nat × Value)} (hkd : P.underlying kt = some kind) (hk : keyOk P kt key = true) (h : Finds P (isAg key) kt kind vk ents 0 res) (w : World) :
    (Instr.findKey kt vk ents).run P w = .ok res w := by
  unfold Instr.findKey
  simp only [Sem.run_bind, run_underlying hkd, Result.andThen_ok]
  cases key with
  | c key =>
    have h : Instr.findNow kind vk ents 0 = some res := h
    rw [h]; rfl
  | agg l =>
    have h : ∀ w, (Instr.findAsking kt vk ents 0).run P w = .ok res w := h
    have hst : ∃ fs, kind = .struct fs := by
      have hk : (match keyKs P kt with
        | some ks => (match eqKs ks l l with
          | some _ => true
          | none => false)
        | none => false) = true := hk
      split at hk
      · rename_i ks hks
        obtain ⟨fs, hu, _⟩ := keyKs_some hks
        rw [hu] at hkd; cases hkd
        exact ⟨fs, rfl⟩
      · cases hk
    obtain ⟨fs, rfl⟩ := hst
    cases ents with
    | nil =>
      have := h w
      cases this
      rfl
    | cons y ents => exact h w

theorem zeroTV_ok {t : TypeId} {z : TV} (h : zeroTV P t = some z) (w : World) : ∃ v, (zeroValue t).run P w = .ok v w ∧ ∀ ρ, TR ρ z v := by
  unfold zeroTV at h
  split at h
  · rename_i i hi
    split at h
    · rename_i v hv
      refine ⟨v, ?_, fun ρ => ?_⟩
      · unfold zeroValue
        simp only [Sem.run_bind, run_typeInfoT hi, Result.andThen_ok, hv, Sem.run_pure]
      · have := ofV_ok ρ v
        split at h
        · rename_i c hc
          cases h
          rw [hc] at this; exact this
        · rename_i l hl
          cases h
          rw [hl] at this; exact this
        · cases h
    · cases h
  · cases h

theorem okFound_ok {ok found : Bool} {t : TV} {v : AV} (h : okFound ok found m t = .ok v m') : m' = m ∧ ∀ (ρ : Rho) (x : Value), TR ρ t x → AR ρ v (if ok then .tuple #[x, .bool found] else x) := by
  unfold okFound at h
  split at h
  · cases h
    exact ⟨rfl, fun ρ x hx => ⟨#[x, .bool found], rfl, hx, rfl, trivial⟩⟩
  · rw [okTV_eq] at h
    cases h
    exact ⟨rfl, fun ρ x hx => TR.av hx⟩

theorem keyOk_under {kt : TypeId} {key : TV} (hk : keyOk P kt key = true) : ∃ kind, P.underlying kt = some kind := by
  cases key with
  | c key =>
    have hk : keyKind (P.underlying kt) key = true := hk
    cases hu : P.underlying kt with
    | none => rw [hu] at hk; cases hk
    | some kind => exact ⟨kind, rfl⟩
  | agg l =>
    have hk : (match keyKs P kt with
      | some ks => (match eqKs ks l l with
        | some _ => true
        | none => false)
      | none => false) = true := hk
    split at hk
    · rename_i ks hks
      obtain ⟨fs, hu, _⟩ := keyKs_some hks
      exact ⟨_, hu⟩
    · cases hk

/-- What is looked up in a map's entries. -/
theorem lookupM_ok {kt et t : TypeId} {z : TV} {ok : Bool} {key : TV} {es : List MapE} {v : AV} (hu : P.underlying t = some (.map kt et)) (hz : zeroTV P et = some z) (hk : keyOk P kt key = true) (hu0 : ∃ kind, P.underlying kt = some kind) (h : lookupM (keyKs P kt) z ok key es m = .ok v m') :
    m' = m ∧ ∀ (ρ : Rho) (vk mv : Value) (ents : Array MapEntry) (w : World), TR ρ key vk → All2 (ERel ρ) es ents.toList →
      ((mv = .map none ∧ ents = #[]) ∨ ∃ r clock, mv = .map (some r) ∧ w.heap[r]? = some (.map ents clock)) → ∃ x, (Instr.lookup t mv vk ok).run P w = .ok x w ∧ AR ρ v x := by
  obtain ⟨kind, hkd⟩ := hu0
  have h : findG (.fail [92]) (keyKs P kt) key (okFound ok false m z) (fun _ v => okFound ok true m v) es 0 = .ok v m' := h
  have hm : m' = m := by
    rcases findG_ok hkd hk (.fail [92]) (okFound ok false m z) (fun _ v => okFound ok true m v) es 0 with h1 | ⟨h1, _⟩ | ⟨j, x, h1, _⟩
    · rw [h1] at h; cases h
    · rw [h1] at h; exact (okFound_ok h).1
    · rw [h1] at h; exact (okFound_ok h).1
  refine ⟨hm, fun ρ vk mv ents w hvk hall hmv => ?_⟩
  subst hm
  obtain ⟨_, _, hcheck⟩ := run_checkKey hk ents.isEmpty vk hvk w
  have hlk : ∀ (res : Option (Nat × Value)) (x : Value) (b : Bool), Finds P (isAg key) kt kind vk ents.toList 0 res → (match res with
      | some (_, v) => pure (v, true)
      | none => do pure (← zeroValue et, false) : Sem (Value × Bool)).run P w = .ok (x, b) w → (Instr.lookup t mv vk ok).run P w = .ok (if ok then .tuple #[x, .bool b] else x) w := fun res x b h1 h2 => by
    have hfk : (Instr.findKey kt vk ents.toList).run P w = .ok res w := h1.key hkd hk w
    have hrest : (do
        Instr.checkKey ents.isEmpty 10000 kt vk
        let (v, ok') ← match ← Instr.findKey kt vk ents.toList with
          | some (_, v) => pure (v, true)
          | none => pure (← zeroValue et, false)
        pure (if ok then .tuple #[v, .bool ok'] else v) : Sem Value).run P w = .ok (if ok then .tuple #[x, .bool b] else x) w := by
      simp only [Sem.run_bind, hcheck, Result.andThen_ok, hfk]
      cases res with
      | none =>
        simp only [Sem.run_bind] at h2 ⊢
        cases hzr : (zeroValue et).run P w with
        | halt hh w' => rw [hzr] at h2; cases h2
        | ok y w' =>
          rw [hzr] at h2
          cases h2
          simp only [Result.andThen_ok, Sem.run_pure]
      | some y =>
        obtain ⟨i, y⟩ := y
        simp only [Sem.run_pure] at h2 ⊢
        cases h2; rfl
    unfold Instr.lookup
    rcases hmv with ⟨rfl, rfl⟩ | ⟨r, clock, rfl, hr⟩
    · simp only [Sem.run_bind, run_underlying hu, Result.andThen_ok, Sem.run_pure] at hrest ⊢
      exact hrest
    · have hg : (getObj r).run P w = .ok (.map ents clock) w := by simp only [getObj, Sem.run, hr]
      simp only [Sem.run_bind, run_underlying hu, Result.andThen_ok, Sem.run_pure, hg] at hrest ⊢
      exact hrest
  rcases findG_ok hkd hk (.fail [92]) (okFound ok false m' z) (fun _ v => okFound ok true m' v) es 0 with h1 | ⟨h1, h2⟩ | ⟨j, x, h1, _, h2⟩
  · rw [h1] at h; cases h
  · rw [h1] at h
    obtain ⟨x, hx, hxr⟩ := zeroTV_ok hz w
    exact ⟨_, hlk none x false (h2 ρ vk ents.toList hvk hall) (by simp only [Sem.run_bind, hx, Result.andThen_ok, Sem.run_pure]), (okFound_ok h).2 ρ x (hxr ρ)⟩
  · rw [h1] at h
    obtain ⟨y, _, h4, h5, _⟩ := h2 ρ vk ents.toList hvk hall
    exact ⟨_, hlk _ y.val true h5 rfl, (okFound_ok h).2 ρ y.val h4.val⟩

theorem lookupD_ok {o : Oper} {t : TypeId} {x i : Operand} {ok : Bool} (ho : o.op = .lookup t x i ok) {D : Nat} : OpOK P o (lookupD P t x i ok (D := D)) := by
  unfold lookupD
  split
  · rename_i kt et hu
    split
    · rename_i z hz
      intro c e m v m' h B0 A N ρ a w hw hin hr he hf
      have h : keyOf ((evO P i).f e) (.fail [93]) (fun key => iff (keyOk P kt key) (lookupR P (keyKs P kt) z ok ((evO P x).f e) key m) (.fail [97])) = .ok v m' := h
      rcases keyOf_ok h with h | ⟨key, hkey, h, hkr⟩
      · cases h
      · rw [iff_eq] at h
        split at h
        · rename_i hk
          have hvk : TR ρ key (a.eval i) := hkr ρ _ (he.eval hr.glob i)
          have hu0 := keyOk_under hk
          have hx := he.eval hr.glob x
          have run : ∀ y, (Instr.lookup t (a.eval x) (a.eval i) ok).run P w = .ok y w → (execOp a.eval o).run P w = .ok (.value y) w := fun y hy => by
            unfold execOp
            rw [ho]
            simp only [Sem.run_bind, hy, Result.andThen_ok, Sem.run_pure]
          unfold lookupR at h
          split at h
          · rename_i hxe
            rw [hxe] at hx
            have hx : a.eval x = .map none := hx
            obtain ⟨rfl, hgo⟩ := lookupM_ok hu hz hk hu0 h
            obtain ⟨y, hy, hay⟩ := hgo ρ (a.eval i) (a.eval x) #[] w hvk trivial (.inl ⟨hx, rfl⟩)
            exact ⟨y, w, ρ, .inl (run y hy), Done.pure hw hr hay⟩
          · rename_i id hxe
            rw [hxe] at hx
            obtain ⟨sg, hsg, hx⟩ := hx
            obtain ⟨rm, hrm, hid, h⟩ := look_ok h
            unfold lookupOb at h
            split at h
            · rename_i es clock hob
              obtain ⟨rfl, hgo⟩ := lookupM_ok hu hz hk hu0 h
              have hat := hr.at hin hsg hid
              rw [hob] at hat
              obtain ⟨ents, hb, hall⟩ := hat
              obtain ⟨y, hy, hay⟩ := hgo ρ (a.eval i) (a.eval x) ents w hvk hall (.inr ⟨_, clock, hx, hb⟩)
              exact ⟨y, w, ρ, .inl (run y hy), Done.looked hw hr hrm hay⟩
            · cases h
          · cases h
        · cases h
    · exact OpOK.no
  · exact OpOK.no

/-! ### Entries laid -/

/-- A world with another object at a number. -/
def setOb (w : World) (r : Nat) (o : Obj) : World := { w with heap := w.heap.setIfInBounds r o }

theorem setOb_same {r : Nat} {o x : Obj} (h : w.heap[r]? = some x) : (setOb w r o).heap[r]? = some o := by
  have hlt : r < w.heap.size := (Array.getElem?_eq_some_iff.1 h).1
  show (w.heap.setIfInBounds r o)[r]? = some o
  rw [Array.getElem?_setIfInBounds_self, if_pos hlt]

theorem setOb_other {r b : Nat} {o : Obj} (h : b ≠ r) : (setOb w r o).heap[b]? = w.heap[b]? := by
  show (w.heap.setIfInBounds r o)[b]? = _
  rw [Array.getElem?_setIfInBounds_ne (Ne.symm h)]

theorem setOb_size (r : Nat) (o : Obj) : (setOb w r o).heap.size = w.heap.size := by simp [setOb]

theorem run_setObj {r : Nat} {o x : Obj} (h : w.heap[r]? = some x) (hx : ∀ c t f, x ≠ .cells c t f) : (setObj r o).run P w = .ok () (setOb w r o) := by
  cases x with
  | cells c t f => exact absurd rfl (hx c t f)
  | _ => simp only [setObj, Sem.run, h, setOb]

theorem run_getObj {r : Nat} {x : Obj} (h : w.heap[r]? = some x) (hx : ∀ c t f, x ≠ .cells c t f) : (getObj r).run P w = .ok x w := by
  cases x with
  | cells c t f => exact absurd rfl (hx c t f)
  | _ => simp only [getObj, Sem.run, h]

/-- An object that was there is another. -/
theorem Post.setOb (hw : WF P m) (hr : Rel P B0 A ρ m.H w) {id : Nat} {s : Seg} (hA : A id) (hs : ρ id = some s) (hg : glb P ≤ id) (hl : Live m.H id) {x : Obj} (hx : w.heap[s.blk]? = some x) (ob : Ob) (o : Obj) (ho : OR ρ s ob (some o)) (rm wm : Nat) (dfs : List Nat) :
    Post P B0 A (fun i => i = id) ρ m w ρ ⟨updN hd id m.H ob, m.nx, rm, wm, dfs⟩ (setOb w s.blk o) :=
  Post.turn hw hr hA hs hg hl ob _ (setOb_size _ _) (fun b hb => setOb_other hb) (by rw [setOb_same hx]; exact ho) rfl rfl rfl _ _ _

theorem All2.modify {α β : Type} {R : α → β → Prop} {f : α → α} {g : β → β} : ∀ {l : List α} {m : List β} (i : Nat), All2 R l m → (∀ a b, R a b → R (f a) (g b)) → All2 R (l.modify i f) (m.modify i g)
  | [], [], i, _, _ => by cases i <;> trivial
  | _ :: _, _ :: _, 0, h, hf => ⟨hf _ _ h.1, h.2⟩
  | _ :: _, _ :: _, i + 1, h, hf => ⟨h.1, All2.modify i h.2 hf⟩
  | [], _ :: _, _, h, _ => h.elim
  | _ :: _, [], _, h, _ => h.elim

theorem mapUpdateD_ok {o : Oper} {t : TypeId} {x i y : Operand} (ho : o.op = .mapUpdate t x i y ∨ o.op = .insert t x i y) {D : Nat} : OpOK P o (mapUpdateD P t x i y (D := D)) := by
  unfold mapUpdateD
  split
  · rename_i kt et hu
    intro c e m v m' h B0 A N ρ a w hw hin hr he hf
    have h : keyOf ((evO P i).f e) (.fail [100]) (fun key => iff (keyOk P kt key) (updR P (keyKs P kt) ((evO P x).f e) ((evO P y).f e) key m) (.fail [108])) = .ok v m' := h
    rcases keyOf_ok h with h | ⟨key, hkey, h, hkr⟩
    · cases h
    · rw [iff_eq] at h
      split at h
      · rename_i hk
        have hvk : TR ρ key (a.eval i) := hkr ρ _ (he.eval hr.glob i)
        have hx := he.eval hr.glob x
        have run : ∀ w', (Instr.mapUpdate t (a.eval x) (a.eval i) (a.eval y)).run P w = .ok () w' → (execOp a.eval o).run P w = .ok .skip w' := fun w' hy => by
          unfold execOp
          rcases ho with ho | ho <;> rw [ho] <;> simp only [Sem.run_bind, hy, Result.andThen_ok, Sem.run_pure]
        unfold updR at h
        split at h
        · rename_i id hxe
          rw [hxe] at hx
          obtain ⟨sg, hsg, hx⟩ := hx
          rcases tvOf_ok h with h | ⟨val, h, _, hval⟩
          · cases h
          · have hval := hval ρ _ (he.eval hr.glob y)
            obtain ⟨rm, hrm, hid, h⟩ := look_ok h
            unfold updOb at h
            split at h
            · rename_i es clock hob
              obtain ⟨kind, hkd, hcheck⟩ := run_checkKey hk false (a.eval i) hvk w
              -- a turn of the map
              have fin : ∀ (es' : List MapE) (clock' k : Nat), turn P id (.mp es' clock') ⟨m.H, m.nx, rm, m.wm, m.dfs⟩ (.fail [k]) okU = .ok v m' →
                  (∀ ents : Array MapEntry, w.heap[sg.blk]? = some (.map ents clock) → All2 (ERel ρ) es ents.toList → ∃ ents' : Array MapEntry, All2 (ERel ρ) es' ents'.toList ∧ (Instr.mapUpdate t (a.eval x) (a.eval i) (a.eval y)).run P w = .ok () (setOb w sg.blk (.map ents' clock'))) →
                  ∃ x w' ρ', Runs P o a w x w' ∧ Done P B0 A ρ m w v m' x w' ρ' := fun es' clock' k h hgo => by
                rcases turn_ok h with h | ⟨hg, h⟩
                · cases h
                · have h : RO.ok undefA ⟨updN hd id m.H (.mp es' clock'), m.nx, min rm id, min m.wm id, m.dfs⟩ = .ok v m' := h
                  cases h
                  have hA := hin id (.inl (Nat.min_le_right _ _))
                  have hat := hr.rows _ _ hsg (.inl hA)
                  rw [hob] at hat
                  obtain ⟨ents, hb, hall⟩ := hat
                  obtain ⟨ents', hall', hrun⟩ := hgo ents hb hall
                  have ho' : OR ρ sg (.mp es' clock') (some (.map ents' clock')) := ⟨ents', rfl, hall'⟩
                  exact ⟨undef, _, ρ, .inr ⟨rfl, run _ hrun⟩, AR.undef ρ, (Post.setOb hw hr hA hsg hg (fun h => by rw [hob] at h; cases h) hb _ _ ho' _ _ _).more (fun i hi => by rw [hi]; exact Nat.min_le_right _ _),
                    Nat.le_trans (Nat.min_le_left _ _) hrm, Nat.min_le_left _ _, rfl⟩
              have sets : ∀ (ents : Array MapEntry) (res : Option (Nat × Value)), w.heap[sg.blk]? = some (.map ents clock) → Finds P (isAg key) kt kind (a.eval i) ents.toList 0 res →
                  ∀ w', ((match res with
                    | some (j, _) => do
                      let key ← Instr.keyThatStays (((ents[j]?).map (·.key)).getD (a.eval i)) (a.eval i)
                      setObj sg.blk (.map (ents.modify j fun e => { e with key, val := a.eval y }) clock)
                    | none => setObj sg.blk (.map (ents.push { key := a.eval i, val := a.eval y, born := clock }) (clock + 1))) : Sem Unit).run P w = .ok () w' → (Instr.mapUpdate t (a.eval x) (a.eval i) (a.eval y)).run P w = .ok () w' := fun ents res hb hfn w' hrest => by
                have hfk : (Instr.findKey kt (a.eval i) ents.toList).run P w = .ok res w := hfn.key hkd hk w
                have hg := run_getObj (P := P) hb (fun _ _ _ h => by cases h)
                rw [hx]
                unfold Instr.mapUpdate
                simp only [Sem.run_bind, run_underlying hu, Result.andThen_ok, hg, hcheck, hfk]
                cases res with
                | none => exact hrest
                | some r => exact hrest
              have h : findG (.fail [103]) (keyKs P kt) key (pushM ⟨key, val, clock⟩ es fun es => num (Nat.succ clock) fun clock => turn P id (.mp es clock) ⟨m.H, m.nx, rm, m.wm, m.dfs⟩ (.fail [104]) okU)
                  (fun j _ => setM j key val es fun es => turn P id (.mp es clock) ⟨m.H, m.nx, rm, m.wm, m.dfs⟩ (.fail [105]) okU) es 0 = .ok v m' := h
              rcases findG_ok hkd hk (.fail [103]) (pushM ⟨key, val, clock⟩ es fun es => num (Nat.succ clock) fun clock => turn P id (.mp es clock) ⟨m.H, m.nx, rm, m.wm, m.dfs⟩ (.fail [104]) okU)
                  (fun j _ => setM j key val es fun es => turn P id (.mp es clock) ⟨m.H, m.nx, rm, m.wm, m.dfs⟩ (.fail [105]) okU) es 0 with h1 | ⟨h1, h2⟩ | ⟨j, x', h1, h3, h2⟩
              · rw [h1] at h; cases h
              · rw [h1, pushM_eq, num_eq] at h
                refine fin _ _ _ h fun ents hb hall => ⟨ents.push { key := a.eval i, val := a.eval y, born := clock }, ?_, sets ents none hb (h2 ρ _ _ hvk hall) _ ?_⟩
                · rw [Array.toList_push]
                  exact All2.append hall ⟨⟨hvk, hval, rfl⟩, trivial⟩
                · exact run_setObj hb (fun _ _ _ h => by cases h)
              · rw [h1, setM_eq, Nat.zero_add] at h
                refine fin _ _ _ h fun ents hb hall => ?_
                obtain ⟨y', hy', her, hfn, hsame⟩ := h2 ρ _ _ hvk hall
                rw [Nat.zero_add] at hfn
                refine ⟨ents.modify j fun e => { e with key := a.eval i, val := a.eval y }, ?_, sets ents _ hb hfn _ ?_⟩
                · rw [Array.toList_modify]
                  exact All2.modify j hall fun p q hpq => ⟨hvk, hval, hpq.born⟩
                · have hold : ((ents[j]?).map (·.key)).getD (a.eval i) = y'.key := by
                    rw [Array.getElem?_toList] at hy'
                    rw [hy']; rfl
                  have hstay : (Instr.keyThatStays y'.key (a.eval i)).run P w = .ok (a.eval i) w := by
                    unfold Instr.keyThatStays
                    rw [if_pos hsame]; rfl
                  simp only [hold, Sem.run_bind, hstay, Result.andThen_ok]
                  exact run_setObj hb (fun _ _ _ h => by cases h)
            · cases h
        · cases h
      · cases h
  · exact OpOK.no

end Go.CE
