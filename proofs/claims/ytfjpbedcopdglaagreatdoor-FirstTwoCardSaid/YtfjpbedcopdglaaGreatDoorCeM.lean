/- Maps. No program is named. -/
import Derived.Test.YtfjpbedcopdglaaGreatDoorCeL
noncomputable section
namespace Go.CE
open Go

variable {P : Program} {B0 : Nat} {A W W' : Nat → Prop} {ρ ρ' ρ'' : Rho} {m m' m'' : M} {w w' w'' : World}

theorem bytes_beq (a b : ByteArray) : (a == b) = (a.toList == b.toList) := by
  rw [ByteArray.toList_eq, ByteArray.toList_eq]
  show (a.data == b.data) = _
  rw [Bool.eq_iff_iff, beq_iff_eq, beq_iff_eq]
  exact Array.toList_inj.symm

theorem bytes_eq {a b : ByteArray} (h : (a == b) = true) : a = b := by
  rw [bytes_beq, beq_iff_eq, ByteArray.toList_eq, ByteArray.toList_eq] at h
  exact ByteArray.ext (Array.toList_inj.1 h)

theorem bytes_refl (a : ByteArray) : (a == a) = true := by rw [bytes_beq]; exact BEq.rfl

/-- Keys that are told apart at once: what the model says of them. -/
theorem sameNow_ok {kind : TypeDesc} {k c : CV} {vk vc : Value} (hk : keyKind (some kind) k = true) (hvk : CR ρ k vk) (hvc : CR ρ c vc) {b : Bool} (h : sameC k c = some b) : Instr.sameNow kind vk vc = some b ∧ (b = true → Instr.sameBits 10000 vc vk = true) := by
  unfold keyKind at hk
  split at hk
  · rename_i j hj
    cases hj
    split at hk
    · rename_i i n
      rcases sameC_ok h hvk hvc with ⟨k', a, d, h1, h2, h3⟩ | ⟨a, d, h1, _⟩ | ⟨s, t, h1, _⟩
      · have hvk : vk = .int i n := hvk
        rw [h1, h2]
        refine ⟨by simp [Instr.sameNow, h3], fun hb => ?_⟩
        rw [h3] at hb
        have := eq_of_beq hb
        subst this
        simp [Instr.sameBits]
      · have hvk : vk = .int i n := hvk
        rw [hvk] at h1; cases h1
      · have hvk : vk = .int i n := hvk
        rw [hvk] at h1; cases h1
    · cases hk
  · rename_i hj
    cases hj
    split at hk
    · rename_i s0
      rcases sameC_ok h hvk hvc with ⟨k', a, d, h1, _⟩ | ⟨a, d, h1, _⟩ | ⟨s, t, h1, h2, h3⟩
      · have hvk : vk = .string (bytesOf s0) := hvk.1
        rw [hvk] at h1; cases h1
      · have hvk : vk = .string (bytesOf s0) := hvk.1
        rw [hvk] at h1; cases h1
      · rw [h1, h2]
        refine ⟨by simp only [Instr.sameNow, bytes_beq, h3], fun hb => ?_⟩
        rw [h3, ← bytes_beq] at hb
        have := bytes_eq hb
        subst this
        simp only [Instr.sameBits]
        exact bytes_refl s
    · cases hk
  · cases hk

def findG {β : Type} (bad : β) (key : CV) (no : β) (yes : Nat → TV → β) (es : List MapE) : Nat → β :=
  List.rec (motive := fun _ => Nat → β) (fun _ => no) (fun x _ ih i => stepM bad (sameC key x.key) (yes i x.val) (num (Nat.succ i) ih)) es

theorem findG_ok {β : Type} {kind : TypeDesc} {key : CV} (hk : keyKind (some kind) key = true) (bad no : β) (yes : Nat → TV → β) : ∀ (es : List MapE) (i : Nat),
    findG bad key no yes es i = bad ∨ (findG bad key no yes es i = no ∧ ∀ (ρ : Rho) (vk : Value) (ents : List MapEntry), CR ρ key vk → All2 (ERel ρ) es ents → Instr.findNow kind vk ents i = some none) ∨
      ∃ j x, findG bad key no yes es i = yes (i + j) x.val ∧ es[j]? = some x ∧ ∀ (ρ : Rho) (vk : Value) (ents : List MapEntry), CR ρ key vk → All2 (ERel ρ) es ents →
        ∃ y, ents[j]? = some y ∧ ERel ρ x y ∧ Instr.findNow kind vk ents i = some (some (i + j, y.val)) ∧ Instr.sameBits 10000 y.key vk = true
  | [], i => .inr (.inl ⟨rfl, fun ρ vk ents _ h => by
      cases ents with
      | nil => rfl
      | cons _ _ => exact h.elim⟩)
  | x :: es, i => by
    have e : findG bad key no yes (x :: es) i = stepM bad (sameC key x.key) (yes i x.val) (findG bad key no yes es (i + 1)) := rfl
    rw [e]
    cases hs : sameC key x.key with
    | none => exact .inl rfl
    | some b =>
      have ef : ∀ vk (y : MapEntry) ents, Instr.findNow kind vk (y :: ents) i = match Instr.sameNow kind vk y.key with
        | some true => some (some (i, y.val))
        | some false => Instr.findNow kind vk ents (i + 1)
        | none => none := fun _ _ _ => rfl
      show iff b (yes i x.val) (findG bad key no yes es (i + 1)) = bad ∨ _
      cases b with
      | true =>
        refine .inr (.inr ⟨0, x, rfl, rfl, fun ρ vk ents hvk hall => ?_⟩)
        cases ents with
        | nil => exact hall.elim
        | cons y ents =>
          obtain ⟨h1, h2⟩ := sameNow_ok hk hvk hall.1.key hs
          exact ⟨y, rfl, hall.1, by rw [ef, h1]; rfl, h2 rfl⟩
      | false =>
        rcases findG_ok hk bad no yes es (i + 1) with h3 | ⟨h3, h4⟩ | ⟨j, x', h3, h4, h5⟩
        · exact .inl h3
        · refine .inr (.inl ⟨h3, fun ρ vk ents hvk hall => ?_⟩)
          cases ents with
          | nil => exact hall.elim
          | cons y ents =>
            obtain ⟨h1, _⟩ := sameNow_ok hk hvk hall.1.key hs
            rw [ef, h1]
            exact h4 ρ vk ents hvk hall.2
        · refine .inr (.inr ⟨j + 1, x', ?_, by simpa using h4, fun ρ vk ents hvk hall => ?_⟩)
          · rw [show i + (j + 1) = i + 1 + j by omega]; exact h3
          · cases ents with
            | nil => exact hall.elim
            | cons y ents =>
              obtain ⟨h1, _⟩ := sameNow_ok hk hvk hall.1.key hs
              obtain ⟨y', a, b, c, d⟩ := h5 ρ vk ents hvk hall.2
              refine ⟨y', by simpa using a, b, ?_, d⟩
              rw [ef, h1, show i + (j + 1) = i + 1 + j by omega]
              exact c

theorem setM_eq {β : Type} (key : CV) (val : TV) : ∀ (es : List MapE) (i : Nat) (k : List MapE → β), setM i key val es k = k (es.modify i fun x => ⟨key, val, x.born⟩)
  | [], i, k => by cases i <;> rfl
  | x :: r, 0, k => rfl
  | x :: r, i + 1, k => by
    have e : setM (i + 1) key val (x :: r) k = setM i key val r fun r => k (x :: r) := rfl
    rw [e, setM_eq key val r i]; rfl

theorem pushM_eq {β : Type} (x : MapE) : ∀ (es : List MapE) (k : List MapE → β), pushM x es k = k (es ++ [x])
  | [], _ => rfl
  | y :: r, k => by
    have e : pushM x (y :: r) k = pushM x r fun r => k (y :: r) := rfl
    rw [e, pushM_eq x r]; rfl

theorem keyOf_ok {v : AV} {bad : RO} {k : CV → RO} {r : RO} (h : keyOf v bad k = r) : bad = r ∨ ∃ c, v = .c c ∧ k c = r := by
  cases v with
  | c c => exact .inr ⟨c, rfl, h⟩
  | _ => exact .inl h

theorem tvOf_ok {β : Type} {v : AV} {bad : β} {k : TV → β} {r : β} (h : tvOf v bad k = r) : bad = r ∨ ∃ t, k t = r ∧ v = avOf t ∧ ∀ (ρ : Rho) (x : Value), AR ρ v x → TR ρ t x := by
  cases v with
  | c c => exact .inr ⟨.c c, h, rfl, fun _ _ h => h⟩
  | agg l => exact .inr ⟨.agg l, h, rfl, fun _ _ h => h⟩
  | _ => exact .inl h

/-- A key of a kind that is looked up at once need not be checked. -/
theorem run_checkKey {kt : TypeId} {key : CV} (hk : keyKind (P.underlying kt) key = true) (b : Bool) (v : Value) (w : World) : ∃ kind, P.underlying kt = some kind ∧ keyKind (some kind) key = true ∧ (Instr.checkKey b 10000 kt v).run P w = .ok () w := by
  cases hu : P.underlying kt with
  | none => rw [hu] at hk; cases hk
  | some kind =>
    rw [hu] at hk
    refine ⟨kind, rfl, hk, ?_⟩
    unfold Instr.checkKey
    simp only [Sem.run_bind, run_underlying hu, Result.andThen_ok]
    cases kind <;> first | rfl | (unfold keyKind at hk; cases hk)

theorem zeroTV_ok {t : TypeId} {z : TV} (h : zeroTV P t = some z) (w : World) : ∃ v, (zeroValue t).run P w = .ok v w ∧ ∀ ρ, TR ρ z v := by
  unfold zeroTV at h
  split at h
  · rename_i i hi
    split at h
    · rename_i v hv
      refine ⟨v, ?_, fun ρ => ?_⟩
      · unfold zeroValue
        simp only [Sem.run_bind, run_typeInfoT hi, Result.andThen_ok, hv, Sem.run_pure]
      · have := ofV_ok ρ v
        split at h
        · rename_i c hc
          cases h
          rw [hc] at this; exact this
        · rename_i l hl
          cases h
          rw [hl] at this; exact this
        · cases h
    · cases h
  · cases h

theorem okFound_ok {ok found : Bool} {t : TV} {v : AV} (h : okFound ok found m t = .ok v m') : m' = m ∧ ∀ (ρ : Rho) (x : Value), TR ρ t x → AR ρ v (if ok then .tuple #[x, .bool found] else x) := by
  unfold okFound at h
  split at h
  · cases h
    exact ⟨rfl, fun ρ x hx => ⟨#[x, .bool found], rfl, hx, rfl, trivial⟩⟩
  · rw [okTV_eq] at h
    cases h
    exact ⟨rfl, fun ρ x hx => TR.av hx⟩

/-- What is looked up in a map's entries. -/
theorem lookupM_ok {kt et t : TypeId} {z : TV} {ok : Bool} {key : CV} {es : List MapE} {v : AV} (hu : P.underlying t = some (.map kt et)) (hz : zeroTV P et = some z) (hk : keyKind (P.underlying kt) key = true) (h : lookupM z ok key es m = .ok v m') :
    m' = m ∧ ∀ (ρ : Rho) (vk mv : Value) (ents : Array MapEntry) (w : World), CR ρ key vk → All2 (ERel ρ) es ents.toList →
      ((mv = .map none ∧ ents = #[]) ∨ ∃ r clock, mv = .map (some r) ∧ w.heap[r]? = some (.map ents clock)) → ∃ x, (Instr.lookup t mv vk ok).run P w = .ok x w ∧ AR ρ v x := by
  obtain ⟨kind, hkd, hkk⟩ : ∃ kind, P.underlying kt = some kind ∧ keyKind (some kind) key = true := by
    cases hu' : P.underlying kt with
    | none => rw [hu'] at hk; cases hk
    | some kind => rw [hu'] at hk; exact ⟨kind, rfl, hk⟩
  have h : findG (.fail [92]) key (okFound ok false m z) (fun _ v => okFound ok true m v) es 0 = .ok v m' := h
  have hm : m' = m := by
    rcases findG_ok hkk (.fail [92]) (okFound ok false m z) (fun _ v => okFound ok true m v) es 0 with h1 | ⟨h1, _⟩ | ⟨j, x, h1, _⟩
    · rw [h1] at h; cases h
    · rw [h1] at h; exact (okFound_ok h).1
    · rw [h1] at h; exact (okFound_ok h).1
  refine ⟨hm, fun ρ vk mv ents w hvk hall hmv => ?_⟩
  subst hm
  obtain ⟨_, _, _, hcheck⟩ := run_checkKey hk ents.isEmpty vk w
  have hlk : ∀ (res : Option (Nat × Value)) (x : Value) (b : Bool), Instr.findNow kind vk ents.toList 0 = some res → (match res with
      | some (_, v) => pure (v, true)
      | none => do pure (← zeroValue et, false) : Sem (Value × Bool)).run P w = .ok (x, b) w → (Instr.lookup t mv vk ok).run P w = .ok (if ok then .tuple #[x, .bool b] else x) w := fun res x b h1 h2 => by
    have hfk : (Instr.findKey kt vk ents.toList).run P w = .ok res w := by
      unfold Instr.findKey
      simp only [Sem.run_bind, run_underlying hkd, Result.andThen_ok, h1, Sem.run_pure]
    have hrest : (do
        Instr.checkKey ents.isEmpty 10000 kt vk
        let (v, ok') ← match ← Instr.findKey kt vk ents.toList with
          | some (_, v) => pure (v, true)
          | none => pure (← zeroValue et, false)
        pure (if ok then .tuple #[v, .bool ok'] else v) : Sem Value).run P w = .ok (if ok then .tuple #[x, .bool b] else x) w := by
      simp only [Sem.run_bind, hcheck, Result.andThen_ok, hfk]
      cases res with
      | none =>
        simp only [Sem.run_bind] at h2 ⊢
        cases hzr : (zeroValue et).run P w with
        | halt hh w' => rw [hzr] at h2; cases h2
        | ok y w' =>
          rw [hzr] at h2
          cases h2
          simp only [Result.andThen_ok, Sem.run_pure]
      | some y =>
        obtain ⟨i, y⟩ := y
        simp only [Sem.run_pure] at h2 ⊢
        cases h2; rfl
    unfold Instr.lookup
    rcases hmv with ⟨rfl, rfl⟩ | ⟨r, clock, rfl, hr⟩
    · simp only [Sem.run_bind, run_underlying hu, Result.andThen_ok, Sem.run_pure] at hrest ⊢
      exact hrest
    · have hg : (getObj r).run P w = .ok (.map ents clock) w := by simp only [getObj, Sem.run, hr]
      simp only [Sem.run_bind, run_underlying hu, Result.andThen_ok, Sem.run_pure, hg] at hrest ⊢
      exact hrest
  rcases findG_ok hkk (.fail [92]) (okFound ok false m' z) (fun _ v => okFound ok true m' v) es 0 with h1 | ⟨h1, h2⟩ | ⟨j, x, h1, _, h2⟩
  · rw [h1] at h; cases h
  · rw [h1] at h
    obtain ⟨x, hx, hxr⟩ := zeroTV_ok hz w
    exact ⟨_, hlk none x false (h2 ρ vk ents.toList hvk hall) (by simp only [Sem.run_bind, hx, Result.andThen_ok, Sem.run_pure]), (okFound_ok h).2 ρ x (hxr ρ)⟩
  · rw [h1] at h
    obtain ⟨y, _, h4, h5, _⟩ := h2 ρ vk ents.toList hvk hall
    exact ⟨_, hlk _ y.val true h5 rfl, (okFound_ok h).2 ρ y.val h4.val⟩

theorem lookupD_ok {o : Oper} {t : TypeId} {x i : Operand} {ok : Bool} (ho : o.op = .lookup t x i ok) {D : Nat} : OpOK P o (lookupD P t x i ok (D := D)) := by
  unfold lookupD
  split
  · rename_i kt et hu
    split
    · rename_i z hz
      intro c e m v m' h B0 A N ρ a w hw hin hr he hf
      have h : keyOf ((evO P i).f e) (.fail [93]) (fun key => iff (keyKind (P.underlying kt) key) (lookupR P z ok ((evO P x).f e) key m) (.fail [97])) = .ok v m' := h
      rcases keyOf_ok h with h | ⟨key, hkey, h⟩
      · cases h
      · rw [iff_eq] at h
        split at h
        · rename_i hk
          have hvk := he.eval hr.glob i
          rw [hkey] at hvk
          have hx := he.eval hr.glob x
          have run : ∀ y, (Instr.lookup t (a.eval x) (a.eval i) ok).run P w = .ok y w → (execOp a.eval o).run P w = .ok (.value y) w := fun y hy => by
            unfold execOp
            rw [ho]
            simp only [Sem.run_bind, hy, Result.andThen_ok, Sem.run_pure]
          unfold lookupR at h
          split at h
          · rename_i hxe
            rw [hxe] at hx
            have hx : a.eval x = .map none := hx
            obtain ⟨rfl, hgo⟩ := lookupM_ok hu hz hk h
            obtain ⟨y, hy, hay⟩ := hgo ρ (a.eval i) (a.eval x) #[] w hvk trivial (.inl ⟨hx, rfl⟩)
            exact ⟨y, w, ρ, .inl (run y hy), Done.pure hw hr hay⟩
          · rename_i id hxe
            rw [hxe] at hx
            obtain ⟨sg, hsg, hx⟩ := hx
            obtain ⟨rm, hrm, hid, h⟩ := look_ok h
            unfold lookupOb at h
            split at h
            · rename_i es clock hob
              obtain ⟨rfl, hgo⟩ := lookupM_ok hu hz hk h
              have hat := hr.at hin hsg hid
              rw [hob] at hat
              obtain ⟨ents, hb, hall⟩ := hat
              obtain ⟨y, hy, hay⟩ := hgo ρ (a.eval i) (a.eval x) ents w hvk hall (.inr ⟨_, clock, hx, hb⟩)
              exact ⟨y, w, ρ, .inl (run y hy), Done.looked hw hr hrm hay⟩
            · cases h
          · cases h
        · cases h
    · exact OpOK.no
  · exact OpOK.no

/-! ### Entries laid -/

/-- A world with another object at a number. -/
def setOb (w : World) (r : Nat) (o : Obj) : World := { w with heap := w.heap.setIfInBounds r o }

theorem setOb_same {r : Nat} {o x : Obj} (h : w.heap[r]? = some x) : (setOb w r o).heap[r]? = some o := by
  have hlt : r < w.heap.size := (Array.getElem?_eq_some_iff.1 h).1
  show (w.heap.setIfInBounds r o)[r]? = some o
  rw [Array.getElem?_setIfInBounds_self, if_pos hlt]

theorem setOb_other {r b : Nat} {o : Obj} (h : b ≠ r) : (setOb w r o).heap[b]? = w.heap[b]? := by
  show (w.heap.setIfInBounds r o)[b]? = _
  rw [Array.getElem?_setIfInBounds_ne (Ne.symm h)]

theorem setOb_size (r : Nat) (o : Obj) : (setOb w r o).heap.size = w.heap.size := by simp [setOb]

theorem run_setObj {r : Nat} {o x : Obj} (h : w.heap[r]? = some x) (hx : ∀ c t f, x ≠ .cells c t f) : (setObj r o).run P w = .ok () (setOb w r o) := by
  cases x with
  | cells c t f => exact absurd rfl (hx c t f)
  | _ => simp only [setObj, Sem.run, h, setOb]

theorem run_getObj {r : Nat} {x : Obj} (h : w.heap[r]? = some x) (hx : ∀ c t f, x ≠ .cells c t f) : (getObj r).run P w = .ok x w := by
  cases x with
  | cells c t f => exact absurd rfl (hx c t f)
  | _ => simp only [getObj, Sem.run, h]

/-- An object that was there is another. -/
theorem Post.setOb (hw : WF P m) (hr : Rel P B0 A ρ m.H w) {id : Nat} {s : Seg} (hA : A id) (hs : ρ id = some s) (hg : glb P ≤ id) (hl : Live m.H id) {x : Obj} (hx : w.heap[s.blk]? = some x) (ob : Ob) (o : Obj) (ho : OR ρ s ob (some o)) (rm wm : Nat) (dfs : List Nat) :
    Post P B0 A (fun i => i = id) ρ m w ρ ⟨updN hd id m.H ob, m.nx, rm, wm, dfs⟩ (setOb w s.blk o) :=
  Post.turn hw hr hA hs hg hl ob _ (setOb_size _ _) (fun b hb => setOb_other hb) (by rw [setOb_same hx]; exact ho) rfl rfl rfl _ _ _

theorem All2.modify {α β : Type} {R : α → β → Prop} {f : α → α} {g : β → β} : ∀ {l : List α} {m : List β} (i : Nat), All2 R l m → (∀ a b, R a b → R (f a) (g b)) → All2 R (l.modify i f) (m.modify i g)
  | [], [], i, _, _ => by cases i <;> trivial
  | _ :: _, _ :: _, 0, h, hf => ⟨hf _ _ h.1, h.2⟩
  | _ :: _, _ :: _, i + 1, h, hf => ⟨h.1, All2.modify i h.2 hf⟩
  | [], _ :: _, _, h, _ => h.elim
  | _ :: _, [], _, h, _ => h.elim

theorem mapUpdateD_ok {o : Oper} {t : TypeId} {x i y : Operand} (ho : o.op = .mapUpdate t x i y ∨ o.op = .insert t x i y) {D : Nat} : OpOK P o (mapUpdateD P t x i y (D := D)) := by
  unfold mapUpdateD
  split
  · rename_i kt et hu
    intro c e m v m' h B0 A N ρ a w hw hin hr he hf
    have h : keyOf ((evO P i).f e) (.fail [100]) (fun key => iff (keyKind (P.underlying kt) key) (updR P ((evO P x).f e) ((evO P y).f e) key m) (.fail [108])) = .ok v m' := h
    rcases keyOf_ok h with h | ⟨key, hkey, h⟩
    · cases h
    · rw [iff_eq] at h
      split at h
      · rename_i hk
        have hvk := he.eval hr.glob i
        rw [hkey] at hvk
        have hvk : CR ρ key (a.eval i) := hvk
        have hx := he.eval hr.glob x
        have run : ∀ w', (Instr.mapUpdate t (a.eval x) (a.eval i) (a.eval y)).run P w = .ok () w' → (execOp a.eval o).run P w = .ok .skip w' := fun w' hy => by
          unfold execOp
          rcases ho with ho | ho <;> rw [ho] <;> simp only [Sem.run_bind, hy, Result.andThen_ok, Sem.run_pure]
        unfold updR at h
        split at h
        · rename_i id hxe
          rw [hxe] at hx
          obtain ⟨sg, hsg, hx⟩ := hx
          rcases tvOf_ok h with h | ⟨val, h, _, hval⟩
          · cases h
          · have hval := hval ρ _ (he.eval hr.glob y)
            obtain ⟨rm, hrm, hid, h⟩ := look_ok h
            unfold updOb at h
            split at h
            · rename_i es clock hob
              obtain ⟨kind, hkd, hkk, hcheck⟩ := run_checkKey hk false (a.eval i) w
              -- a turn of the map
              have fin : ∀ (es' : List MapE) (clock' k : Nat), turn P id (.mp es' clock') ⟨m.H, m.nx, rm, m.wm, m.dfs⟩ (.fail [k]) okU = .ok v m' →
                  (∀ ents : Array MapEntry, w.heap[sg.blk]? = some (.map ents clock) → All2 (ERel ρ) es ents.toList → ∃ ents' : Array MapEntry, All2 (ERel ρ) es' ents'.toList ∧ (Instr.mapUpdate t (a.eval x) (a.eval i) (a.eval y)).run P w = .ok () (setOb w sg.blk (.map ents' clock'))) →
                  ∃ x w' ρ', Runs P o a w x w' ∧ Done P B0 A ρ m w v m' x w' ρ' := fun es' clock' k h hgo => by
                rcases turn_ok h with h | ⟨hg, h⟩
                · cases h
                · have h : RO.ok undefA ⟨updN hd id m.H (.mp es' clock'), m.nx, min rm id, min m.wm id, m.dfs⟩ = .ok v m' := h
                  cases h
                  have hA := hin id (.inl (Nat.min_le_right _ _))
                  have hat := hr.rows _ _ hsg (.inl hA)
                  rw [hob] at hat
                  obtain ⟨ents, hb, hall⟩ := hat
                  obtain ⟨ents', hall', hrun⟩ := hgo ents hb hall
                  have ho' : OR ρ sg (.mp es' clock') (some (.map ents' clock')) := ⟨ents', rfl, hall'⟩
                  exact ⟨undef, _, ρ, .inr ⟨rfl, run _ hrun⟩, AR.undef ρ, (Post.setOb hw hr hA hsg hg (fun h => by rw [hob] at h; cases h) hb _ _ ho' _ _ _).more (fun i hi => by rw [hi]; exact Nat.min_le_right _ _),
                    Nat.le_trans (Nat.min_le_left _ _) hrm, Nat.min_le_left _ _, rfl⟩
              have sets : ∀ (ents : Array MapEntry) (res : Option (Nat × Value)), w.heap[sg.blk]? = some (.map ents clock) → Instr.findNow kind (a.eval i) ents.toList 0 = some res →
                  ∀ w', ((match res with
                    | some (j, _) => do
                      let key ← Instr.keyThatStays (((ents[j]?).map (·.key)).getD (a.eval i)) (a.eval i)
                      setObj sg.blk (.map (ents.modify j fun e => { e with key, val := a.eval y }) clock)
                    | none => setObj sg.blk (.map (ents.push { key := a.eval i, val := a.eval y, born := clock }) (clock + 1))) : Sem Unit).run P w = .ok () w' → (Instr.mapUpdate t (a.eval x) (a.eval i) (a.eval y)).run P w = .ok () w' := fun ents res hb hfn w' hrest => by
                have hfk : (Instr.findKey kt (a.eval i) ents.toList).run P w = .ok res w := by
                  unfold Instr.findKey
                  simp only [Sem.run_bind, run_underlying hkd, Result.andThen_ok, hfn, Sem.run_pure]
                have hg := run_getObj (P := P) hb (fun _ _ _ h => by cases h)
                rw [hx]
                unfold Instr.mapUpdate
                simp only [Sem.run_bind, run_underlying hu, Result.andThen_ok, hg, hcheck, hfk]
                cases res with
                | none => exact hrest
                | some r => exact hrest
              have h : findG (.fail [103]) key (pushM ⟨key, val, clock⟩ es fun es => num (Nat.succ clock) fun clock => turn P id (.mp es clock) ⟨m.H, m.nx, rm, m.wm, m.dfs⟩ (.fail [104]) okU)
                  (fun j _ => setM j key val es fun es => turn P id (.mp es clock) ⟨m.H, m.nx, rm, m.wm, m.dfs⟩ (.fail [105]) okU) es 0 = .ok v m' := h
              rcases findG_ok hkk (.fail [103]) (pushM ⟨key, val, clock⟩ es fun es => num (Nat.succ clock) fun clock => turn P id (.mp es clock) ⟨m.H, m.nx, rm, m.wm, m.dfs⟩ (.fail [104]) okU)
                  (fun j _ => setM j key val es fun es => turn P id (.mp es clock) ⟨m.H, m.nx, rm, m.wm, m.dfs⟩ (.fail [105]) okU) es 0 with h1 | ⟨h1, h2⟩ | ⟨j, x', h1, h3, h2⟩
              · rw [h1] at h; cases h
              · rw [h1, pushM_eq, num_eq] at h
                refine fin _ _ _ h fun ents hb hall => ⟨ents.push { key := a.eval i, val := a.eval y, born := clock }, ?_, sets ents none hb (h2 ρ _ _ hvk hall) _ ?_⟩
                · rw [Array.toList_push]
                  exact All2.append hall ⟨⟨hvk, hval, rfl⟩, trivial⟩
                · exact run_setObj hb (fun _ _ _ h => by cases h)
              · rw [h1, setM_eq, Nat.zero_add] at h
                refine fin _ _ _ h fun ents hb hall => ?_
                obtain ⟨y', hy', her, hfn, hsame⟩ := h2 ρ _ _ hvk hall
                rw [Nat.zero_add] at hfn
                refine ⟨ents.modify j fun e => { e with key := a.eval i, val := a.eval y }, ?_, sets ents _ hb hfn _ ?_⟩
                · rw [Array.toList_modify]
                  exact All2.modify j hall fun p q hpq => ⟨hvk, hval, hpq.born⟩
                · have hold : ((ents[j]?).map (·.key)).getD (a.eval i) = y'.key := by
                    rw [Array.getElem?_toList] at hy'
                    rw [hy']; rfl
                  have hstay : (Instr.keyThatStays y'.key (a.eval i)).run P w = .ok (a.eval i) w := by
                    unfold Instr.keyThatStays
                    rw [if_pos hsame]; rfl
                  simp only [hold, Sem.run_bind, hstay, Result.andThen_ok]
                  exact run_setObj hb (fun _ _ _ h => by cases h)
            · cases h
        · cases h
      · cases h
  · exact OpOK.no

end Go.CE
