/- A region whose order is drawn: what is worked out, step by step, in the text's order. No program is named. -/
import Derived.Test.YtjaklcmadkpmdaaDoorCeU
noncomputable section
namespace Go.CE
open Go

variable {P : Program} {B0 : Nat} {A W W' : Nat → Prop} {ρ ρ' ρ'' : Rho} {m m' m'' : M} {w w' w'' : World}

def Tf (one : Bool) (mr : M) (id : Nat) : Prop := if one = true then id = mr.rm else mr.rm ≤ id
def Wf (one : Bool) (mr : M) (id : Nat) : Prop := if one = true then id = mr.wm else mr.wm ≤ id

theorem Wf.wm {one : Bool} {mr : M} {id : Nat} (h : Wf one mr id) : mr.wm ≤ id := by
  unfold Wf at h; split at h <;> omega
theorem Tf.rm {one : Bool} {mr : M} {id : Nat} (h : Tf one mr id) : mr.rm ≤ id := by
  unfold Tf at h; split at h <;> omega

theorem inf_big : capN hd ≤ inf := by decide

/-- One operation on its own, in whatever order it comes. -/
structure OpRun (P : Program) (o : Oper) {D : Nat} (e : NT D AV) (m : M) (v : AV) (mr : M) : Prop where
  mono : Mono P m mr
  sub : ∀ id, id < m.nx → Wf (single o.op) mr id → Tf (single o.op) mr id
  keep : ∀ id, id < m.nx → ¬ Wf (single o.op) mr id → obj mr.H id = obj m.H id
  run : ∀ (e2 : NT D AV), (∀ x ∈ o.op.operands.toList, Alike P e e2 x) → ∀ (B0 : Nat) (A : Nat → Prop) (N : Nat) (ρ : Rho) (a : Act) (w : World), WF P m → (∀ id, id < m.nx → Tf (single o.op) mr id → A id) → (∀ id, m.nx ≤ id → A id) →
    Rel P B0 A ρ m.H w → ENV ρ N D e2 a.tmps → Fresh ρ m mr → ∀ (F : Fence), Wide F → ∀ (n : Nat) (K : Act → World → Prop) (Q : Exit → Act → World → Prop),
      (∀ x w' ρ', AR ρ' v x → Post P B0 A (Wf (single o.op) mr) ρ m w ρ' mr w' → mr.dfs = m.dfs → K (a.put o.dst x) w') → o.wpIn F n P a w K Q

theorem opRun (o : Oper) {D : Nat} {c : Ctx} (hlow : LowOK P c.low) {e : NT D AV} {v : AV} {mr : M} (h : (opD P o).f c e m = .ok v mr) (hrm : m.rm = inf) (hwm : m.wm = inf) (hcap : m.nx ≤ capN hd) : OpRun P o e m v mr := by
  have hmono : Mono P m mr := opD_mono o hlow e (Mono.refl m) v mr h
  have hrw : mr.rm ≤ mr.wm := hmono.rw' (by rw [hrm, hwm]; exact Nat.le_refl _)
  have hinf := inf_big
  cases ho : single o.op with
  | false =>
    refine ⟨hmono, ?_, ?_, ?_⟩
    · intro id _ hW
      rw [ho] at hW ⊢
      simp only [Wf, Tf, Bool.false_eq_true, if_false] at hW ⊢
      omega
    · intro id hid hW
      rw [ho] at hW
      simp only [Wf, Bool.false_eq_true, if_false] at hW
      exact hmono.keep hcap id hid (by omega)
    · intro e2 hal B0 A N ρ a w hw hT hnx hr he hf F hF n K Q hk
      rw [ho] at hT
      simp only [Tf, Bool.false_eq_true, if_false] at hT
      rw [opD_local o hal] at h
      refine opD_ok o c e2 m v mr h hlow B0 A N ρ a w hw (fun id hid => ?_) hr he hf F hF n K Q fun x w' ρ' hd => hk x w' ρ' hd.val ?_ hd.dfs
      · rcases hid with hid | hid
        · rcases Nat.lt_or_ge id m.nx with h1 | h1
          · exact hT id h1 hid
          · exact hnx id h1
        · exact hnx id hid
      · rw [ho]
        exact hd.post.more fun id hid => by simp only [Wf, Bool.false_eq_true, if_false]; exact hid
  | true =>
    have main : ∀ (ok1 : OpOK1 P o (opD P o (D := D))), (∀ c, o.op ≠ .defer c) → (∀ id, id < m.nx → id = mr.wm → id = mr.rm) → (∀ id, id < m.nx → id ≠ mr.wm → obj mr.H id = obj m.H id) → OpRun P o e m v mr := by
      intro ok1 hnd h1 h2
      refine ⟨hmono, ?_, ?_, ?_⟩
      · intro id hid hW
        rw [ho] at hW ⊢
        simp only [Wf, Tf, if_true] at hW ⊢
        exact h1 id hid hW
      · intro id hid hW
        rw [ho] at hW
        simp only [Wf, if_true] at hW
        exact h2 id hid hW
      · intro e2 hal B0 A N ρ a w hw hT hnx hr he hf F hF n K Q hk
        rw [ho] at hT
        simp only [Tf, if_true] at hT
        rw [opD_local o hal] at h
        obtain ⟨x, w', ρ', hrun, hdone⟩ := ok1 c e2 m v mr hrm hwm h B0 A N ρ a w hw ⟨fun hlt => hT _ hlt rfl, hnx⟩ hr he hf
        refine runs_wp hrun hnd hF n (hk x w' ρ' hdone.val ?_ hdone.dfs)
        rw [ho]
        exact hdone.post.more fun id hid => by simp only [Wf, if_true]; exact hid
    cases hop : o.op with
    | load t x =>
      have e1 : opD P o (D := D) = loadD P t x := by unfold opD; rw [hop]
      refine main ?_ (by simp [hop]) ?_ ?_
      · rw [e1]; exact loadD_ok1 hop
      all_goals
        rw [e1] at h
        obtain ⟨id, off, rm, _, _, _, _, rfl, _⟩ := loadD_go hop h
      · intro j hj hjw
        have hjw : j = m.wm := hjw
        omega
      · intro j _ _; rfl
    | store t x y =>
      have e1 : opD P o (D := D) = storeD P t x y := by unfold opD; rw [hop]
      refine main ?_ (by simp [hop]) ?_ ?_
      · rw [e1]; exact storeD_ok1 hop
      all_goals
        rw [e1] at h
        obtain ⟨id, off, rm, ob, _, hrm', _, hrm2, hg, hidx, _, rfl, _⟩ := storeD_go hop h
      · intro j hj hjw
        have hjw : j = min m.wm id := hjw
        show j = min rm id
        omega
      · intro j hj hjw
        have hjw : j ≠ min m.wm id := hjw
        show obj (updN hd id m.H ob) j = _
        rw [obj_upd (by omega) (by omega), if_neg (by omega)]
    | _ => rw [hop] at ho; cases ho

/-! ### The steps -/

structure RunK (P : Program) (c : Ctx) (N : Nat) {D : Nat} (ops : Array Oper) (o : Oper) (e : NT D AV) (m : M) (e1 : NT D AV) (m1 : M) (v : AV) (mr : M) : Prop where
  gd : (guardD N ops o).f e = .run
  op : (opD P o).f c e ⟨m.H, m.nx, inf, inf, m.dfs⟩ = .ok v mr
  he : e1 = putE N o.dst e v
  hm : m1 = ⟨mr.H, mr.nx, min m.rm mr.rm, min m.wm mr.wm, mr.dfs⟩

structure SkipK (N : Nat) {D : Nat} (ops : Array Oper) (o : Oper) (e : NT D AV) (m : M) (e1 : NT D AV) (m1 : M) : Prop where
  gd : (guardD N ops o).f e = .skip
  he : e1 = putE N o.dst e undefA
  hm : m1 = m

/-- What is noted of an operation. -/
def Noted (log : List Ent) (one : Bool) (k : Nat) (H0 : NT hd Ob) (nx : Nat) (mr : M) : Prop :=
  (nx ≤ mr.rm ∧ nx ≤ mr.wm) ∨ ∃ x ∈ log, x.k = k ∧ x.wr = Bool.not (Nat.ble nx mr.wm) ∧ x.lo = mr.rm ∧ x.wlo = mr.wm ∧ x.hi = (if one = true then mr.rm else inf) ∧ x.one = one ∧ x.h0 = H0 ∧ x.h1 = mr.H

def StepK (P : Program) (c : Ctx) (N : Nat) {D : Nat} (ops : Array Oper) (log : List Ent) (o : Oper) (k : Nat) (e : NT D AV) (m : M) (e1 : NT D AV) (m1 : M) : Prop :=
  (∃ v mr, RunK P c N ops o e m e1 m1 v mr ∧ Noted log (single o.op) k m.H m.nx mr) ∨ SkipK N ops o e m e1 m1

theorem minK_eq {β : Type} (a b : Nat) (k : Nat → β) : minK a b k = k (min a b) := by
  unfold minK
  rw [iff_ble]
  split
  · rw [Nat.min_eq_left ‹_›]
  · rw [Nat.min_eq_right (by omega)]

theorem endDraw_ok {D : Nat} {ops : Array Oper} {e e' : NT D AV} {log : List Ent} {x : Ex} (h : endDraw ops e m log = .ok x e' m') : x = .norm ∧ e' = e ∧ m' = m ∧ (anyWr log = true → entOk (bef ops) log = true) := by
  unfold endDraw at h
  simp only [iff_eq] at h
  split at h
  · split at h
    · rename_i hh; cases h; exact ⟨rfl, rfl, rfl, fun _ => hh⟩
    · cases h
  · rename_i hh; cases h; exact ⟨rfl, rfl, rfl, fun h' => absurd h' hh⟩

theorem apart_ok {D : Nat} {one : Bool} {r : M → RO} {k : Nat} {log : List Ent} {go : AV → M → List Ent → R D} {x : Ex} {e' : NT D AV} (h : apart one r k m log go = .ok x e' m') :
    ∃ v mr log', r ⟨m.H, m.nx, inf, inf, m.dfs⟩ = .ok v mr ∧ go v ⟨mr.H, mr.nx, min m.rm mr.rm, min m.wm mr.wm, mr.dfs⟩ log' = .ok x e' m' ∧ (∀ y ∈ log, y ∈ log') ∧ Noted log' one k m.H m.nx mr := by
  obtain ⟨H, nx, rm, wm, dfs⟩ := m
  obtain ⟨v, mr, h1, h2⟩ := onOk_ok (k := apartC one k H nx rm wm log go) h
  obtain ⟨H', nx', rm', wm', dfs'⟩ := mr
  have h2 : minK rm rm' (fun rmT => minK wm wm' fun wmT =>
      iff (Nat.ble nx rm' && Nat.ble nx wm') (go v ⟨H', nx', rmT, wmT, dfs'⟩ log)
        (go v ⟨H', nx', rmT, wmT, dfs'⟩ (⟨k, Bool.not (Nat.ble nx wm'), rm', wm', iff one rm' inf, one, H, H'⟩ :: log))) = .ok x e' m' := h2
  rw [minK_eq, minK_eq, iff_eq] at h2
  split at h2
  · rename_i hb
    rw [Bool.and_eq_true, ble_iff, ble_iff] at hb
    exact ⟨v, _, log, h1, h2, fun _ hy => hy, .inl hb⟩
  · exact ⟨v, _, _, h1, h2, fun _ hy => List.mem_cons_of_mem _ hy, .inr ⟨_, List.mem_cons_self, rfl, rfl, rfl, rfl, iff_eq _ _ _, rfl, rfl, rfl⟩⟩

theorem runDraw_steps {N D : Nat} {c : Ctx} (ops : Array Oper) : ∀ (l : List Oper) (k : Nat) (e : NT D AV) (m : M) (log : List Ent) {x : Ex} {e' : NT D AV} {m' : M}, (runDraw P N ops l k).f c e m log = .ok x e' m' →
    ∃ (E : Nat → NT D AV) (S : Nat → M) (logf : List Ent), x = .norm ∧ E k = e ∧ S k = m ∧ E (k + l.length) = e' ∧ S (k + l.length) = m' ∧ (∀ y ∈ log, y ∈ logf) ∧ (anyWr logf = true → entOk (bef ops) logf = true) ∧
      ∀ i o, l[i]? = some o → StepK P c N ops logf o (k + i) (E (k + i)) (S (k + i)) (E (k + i + 1)) (S (k + i + 1))
  | [], k, e, m, log, x, e', m', h => by
    have h : endDraw ops e m log = .ok x e' m' := h
    obtain ⟨rfl, rfl, rfl, hl⟩ := endDraw_ok h
    exact ⟨fun _ => e', fun _ => m', log, rfl, rfl, rfl, rfl, rfl, fun _ hy => hy, hl, fun i o hi => by simp at hi⟩
  | o :: r, k, e, m, log, x, e', m', h => by
    have put : ∀ (e1 : NT D AV) (m1 : M) (log1 log2 : List Ent), (∀ y ∈ log, y ∈ log1) → (runDraw P N ops r (k + 1)).f c e1 m1 log1 = .ok x e' m' → (∀ logf : List Ent, (∀ y ∈ log1, y ∈ logf) → StepK P c N ops logf o k e m e1 m1) →
        ∃ (E : Nat → NT D AV) (S : Nat → M) (logf : List Ent), x = .norm ∧ E k = e ∧ S k = m ∧ E (k + (o :: r).length) = e' ∧ S (k + (o :: r).length) = m' ∧ (∀ y ∈ log, y ∈ logf) ∧ (anyWr logf = true → entOk (bef ops) logf = true) ∧
          ∀ i o', (o :: r)[i]? = some o' → StepK P c N ops logf o' (k + i) (E (k + i)) (S (k + i)) (E (k + i + 1)) (S (k + i + 1)) := by
      intro e1 m1 log1 _ hlog h hstep
      obtain ⟨E, S, logf, hx, hE, hS, hE', hS', hl, hok, hst⟩ := runDraw_steps ops r (k + 1) e1 m1 log1 h
      refine ⟨fun j => if j = k then e else E j, fun j => if j = k then m else S j, logf, hx, if_pos rfl, if_pos rfl, ?_, ?_, fun y hy => hl y (hlog y hy), hok, ?_⟩
      · show (if k + (o :: r).length = k then e else E (k + (o :: r).length)) = e'
        rw [if_neg (by simp), List.length_cons, ← hE']; congr 1; omega
      · show (if k + (o :: r).length = k then m else S (k + (o :: r).length)) = m'
        rw [if_neg (by simp), List.length_cons, ← hS']; congr 1; omega
      · intro i o' hi
        cases i with
        | zero =>
          simp only [List.getElem?_cons_zero, Option.some.injEq] at hi
          subst hi
          simp only [Nat.add_zero, if_pos, Nat.succ_ne_self, if_false]
          rw [hE, hS]
          exact hstep logf hl
        | succ i =>
          simp only [List.getElem?_cons_succ] at hi
          have := hst i o' hi
          simp only [if_neg (show ¬ (k + (i + 1) = k) by omega), if_neg (show ¬ (k + (i + 1) + 1 = k) by omega)]
          rw [show k + (i + 1) = k + 1 + i by omega]
          exact this
    have h : byGd ((guardD N ops o).f e) (apart (single o.op) (fun m => (opD P o).f c e m) k m log fun v m log => (putD N o.dst).f e v fun e => (runDraw P N ops r (k + 1)).f c e m log)
      ((putD N o.dst).f e undefA fun e => (runDraw P N ops r (k + 1)).f c e m log) (.fail [178]) = .ok x e' m' := h
    cases hg : (guardD N ops o).f e with
    | run =>
      rw [hg] at h
      obtain ⟨v, mr, log', h1, h2, h3, h4⟩ := apart_ok (m := m) h
      rw [putD_eq] at h2
      refine put _ _ log' log' h3 h2 fun logf hlf => .inl ⟨v, mr, ⟨hg, h1, rfl, rfl⟩, ?_⟩
      rcases h4 with h4 | ⟨y, hy, h5⟩
      · exact .inl h4
      · exact .inr ⟨y, hlf y hy, h5⟩
    | skip =>
      rw [hg] at h
      have h : (putD N o.dst).f e undefA (fun e => (runDraw P N ops r (k + 1)).f c e m log) = .ok x e' m' := h
      rw [putD_eq] at h
      exact put _ _ log log (fun _ hy => hy) h fun logf _ => .inr ⟨hg, rfl, rfl⟩
    | bad => rw [hg] at h; cases h

theorem entOk_spec {b : List Nat} : ∀ {l : List Ent}, entOk b l = true → ∀ x ∈ l, ∀ y ∈ l, x.k ≠ y.k → x.wr = true → (∃ id, x.wlo ≤ id ∧ id ≤ x.hi ∧ y.lo ≤ id ∧ id ≤ y.hi) → cmpB b x.k y.k = true ∨ (y.one = true ∧ obEq (obj x.h0 y.lo) (obj x.h1 y.lo) = true)
  | [], _ => fun x hx => by cases hx
  | z :: r, h => by
    intro x hx y hy
    unfold entOk at h
    rw [Bool.and_eq_true] at h
    obtain ⟨h1, h2⟩ := h
    rw [List.all_eq_true] at h1
    intro hne hw ⟨id, i1, i2, i3, i4⟩
    have sym : ∀ a b' : Nat, cmpB b a b' = cmpB b b' a := fun a b' => by unfold cmpB; rw [Nat.max_comm, Nat.min_comm]
    by_cases hhit : hit x y = true
    case neg =>
      right
      unfold hit at hhit
      rw [hw, ble_iff.2 (show x.wlo ≤ y.hi by omega), ble_iff.2 (show y.lo ≤ x.hi by omega)] at hhit
      simpa [obj] using hhit
    left
    rcases List.mem_cons.1 hx with hxz | hx'
    · rcases List.mem_cons.1 hy with hyz | hy'
      · exact absurd (by rw [hxz, hyz]) hne
      · subst hxz
        have := h1 y hy'
        rw [hhit] at this
        simpa using this
    · rcases List.mem_cons.1 hy with hyz | hy'
      · subst hyz
        have := h1 x hx'
        rw [hhit] at this
        rw [sym]
        simpa using this
      · rcases entOk_spec h2 x hx' y hy' hne hw ⟨id, i1, i2, i3, i4⟩ with h | ⟨h3, h4⟩
        · exact h
        · exfalso
          have h4 : obEq ((getN hd y.lo).f x.h0) ((getN hd y.lo).f x.h1) = true := h4
          unfold hit at hhit
          rw [h3, h4] at hhit
          simp at hhit

/-! ### Who stands ahead of whom -/

theorem befMask_bit {acc : List Nat} {o : Oper} {k : Nat} (h : (befMask acc o).testBit k = true) : ∃ e ∈ o.after, Region.binds .any e = true ∧ (k = e.on ∨ (acc.getD e.on 0).testBit k = true) := by
  unfold befMask at h
  have key : ∀ (l : List Edge) (s : Nat), (l.foldl (fun s e => if Region.binds .any e then s ||| 2 ^ e.on ||| acc.getD e.on 0 else s) s).testBit k = true → s.testBit k = true ∨ ∃ e ∈ l, Region.binds .any e = true ∧ (k = e.on ∨ (acc.getD e.on 0).testBit k = true) := by
    intro l
    induction l with
    | nil => intro s h; exact .inl h
    | cons e r ih =>
      intro s h
      rw [List.foldl_cons] at h
      rcases ih _ h with h | ⟨e', he', h⟩
      · split at h
        · rename_i hb
          rw [Nat.testBit_or, Nat.testBit_or, Bool.or_eq_true, Bool.or_eq_true] at h
          rcases h with (h | h) | h
          · exact .inl h
          · rw [Nat.testBit_two_pow] at h
            exact .inr ⟨e, by simp, hb, .inl (by simpa using (of_decide_eq_true h).symm)⟩
          · exact .inr ⟨e, by simp, hb, .inr h⟩
        · exact .inl h
      · exact .inr ⟨e', by simp [he'], h⟩
  rcases key _ _ h with h | ⟨e, he, h⟩
  · simp at h
  · exact ⟨e, by simpa using he, h⟩

theorem befGo_spec : ∀ (l : List Oper) (acc : List Nat), (∀ i, i < acc.length → (befGo l acc).getD i 0 = acc.getD i 0) ∧ (befGo l acc).length = acc.length + l.length ∧
    ∀ j o, l[j]? = some o → ∃ acc', (befGo l acc).getD (acc.length + j) 0 = befMask acc' o ∧ ∀ i, acc'.getD i 0 = if i < acc.length + j then (befGo l acc).getD i 0 else 0
  | [], acc => ⟨fun _ _ => rfl, rfl, fun j o h => by simp at h⟩
  | q :: r, acc => by
    obtain ⟨h1, h2, h3⟩ := befGo_spec r (acc ++ [befMask acc q])
    simp only [List.length_append, List.length_singleton] at h1 h2 h3
    have hsame : befGo (q :: r) acc = befGo r (acc ++ [befMask acc q]) := rfl
    rw [hsame]
    have h1' : ∀ i, i < acc.length → (befGo r (acc ++ [befMask acc q])).getD i 0 = acc.getD i 0 := fun i hi => by
      rw [h1 i (by omega), List.getD_eq_getElem?_getD, List.getD_eq_getElem?_getD, List.getElem?_append_left hi]
    refine ⟨h1', by rw [h2, List.length_cons]; omega, fun j o hj => ?_⟩
    cases j with
    | zero =>
      simp only [List.getElem?_cons_zero, Option.some.injEq] at hj
      subst hj
      refine ⟨acc, ?_, fun i => ?_⟩
      · rw [h1 _ (by omega), Nat.add_zero, List.getD_eq_getElem?_getD, List.getElem?_append_right (Nat.le_refl _)]
        simp
      · split
        · rw [h1' i (by omega)]
        · rw [List.getD_eq_getElem?_getD, List.getElem?_eq_none (by omega)]; rfl
    | succ j =>
      simp only [List.getElem?_cons_succ] at hj
      obtain ⟨acc', h4, h5⟩ := h3 j o hj
      refine ⟨acc', by rw [show acc.length + (j + 1) = acc.length + 1 + j by omega]; exact h4, fun i => ?_⟩
      rw [h5 i, show acc.length + (j + 1) = acc.length + 1 + j by omega]

theorem bef_spec {ops : Array Oper} {j : Nat} {o : Oper} (hj : ops[j]? = some o) : ∃ acc, (bef ops).getD j 0 = befMask acc o ∧ ∀ i, acc.getD i 0 = if i < j then (bef ops).getD i 0 else 0 := by
  obtain ⟨_, _, h⟩ := befGo_spec ops.toList []
  obtain ⟨acc, h1, h2⟩ := h j o (by rw [Array.getElem?_toList]; exact hj)
  simp only [List.length_nil, Nat.zero_add] at h1 h2
  exact ⟨acc, h1, h2⟩

/-- What stands ahead of one whose edges are all done, is done. -/
theorem bef_done {ops : Array Oper} {L : Nat → Prop} (cl : ∀ k, L k → ∀ o, ops[k]? = some o → ∀ e ∈ o.after, Region.binds .any e = true → L e.on) : ∀ (j : Nat) (o : Oper), ops[j]? = some o → (∀ e ∈ o.after, Region.binds .any e = true → L e.on) →
    ∀ k, ((bef ops).getD j 0).testBit k = true → L k := by
  intro j
  induction j using Nat.strongRecOn with
  | ind j ih =>
    intro o hj hed k hk
    obtain ⟨acc, h1, h2⟩ := bef_spec hj
    rw [h1] at hk
    obtain ⟨e, he, hb, h3⟩ := befMask_bit hk
    rcases h3 with rfl | h3
    · exact hed e he hb
    · rw [h2] at h3
      split at h3
      · rename_i hlt
        have hsz : e.on < ops.size := by
          have : j < ops.size := (Array.getElem?_eq_some_iff.1 hj).1
          omega
        exact ih e.on hlt ops[e.on] (Array.getElem?_eq_getElem hsz) (fun e' he' hb' => cl e.on (hed e he hb) _ (Array.getElem?_eq_getElem hsz) e' he' hb') k h3
      · simp at h3

theorem edgesOk_spec : ∀ (l : List Oper) (i : Nat), edgesOk l i = true → ∀ j o, l[j]? = some o → ∀ e ∈ o.after, Region.binds .any e = true → e.on < i + j
  | [], _, _, j, o, hj => by simp at hj
  | q :: r, i, h, j, o, hj => by
    unfold edgesOk at h
    rw [Bool.and_eq_true] at h
    intro e he hb
    cases j with
    | zero =>
      simp only [List.getElem?_cons_zero, Option.some.injEq] at hj
      subst hj
      have := List.all_eq_true.1 h.1 e (by simpa using he)
      rw [hb] at this
      simp only [Bool.not_true, Bool.false_or, ble_iff] at this
      omega
    | succ j =>
      simp only [List.getElem?_cons_succ] at hj
      have := edgesOk_spec r (i + 1) h.2 j o hj e he hb
      omega

theorem tmpsOk_spec {ops : Array Oper} (h : tmpsOk ops = true) {i k : Nat} {oi ok : Oper} (hi : ops[i]? = some oi) (hk : ops[k]? = some ok) (hne : i ≠ k) {t : Tmp} (ht : ok.dst = some t) (hin : t ∈ namesOf ops oi) : cmpB (bef ops) i k = true := by
  unfold tmpsOk at h
  rw [List.all_eq_true] at h
  have h1 := h i (List.mem_range.2 (Array.getElem?_eq_some_iff.1 hi).1)
  rw [List.all_eq_true] at h1
  have h2 := h1 k (List.mem_range.2 (Array.getElem?_eq_some_iff.1 hk).1)
  rw [hi, hk] at h2
  simp only [ht, Bool.or_eq_true, beq_iff_eq] at h2
  rcases h2 with (h2 | h2) | h2
  · exact absurd h2 hne
  · exact h2
  · simp [hin] at h2

end Go.CE
