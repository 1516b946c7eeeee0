/- A region whose order is drawn: what is so whatever has been done. No program is named. -/
import Derived.Test.YtjaklcmadkpmdaaDoorCeW
noncomputable section
namespace Go.CE
open Go

def Same (S : Nat → M) (k id : Nat) : Prop := obj (S (k + 1)).H id = obj (S k).H id

/-- An object, once those of L are done. -/
def At (S : Nat → M) (n : Nat) (L : Nat → Prop) (id : Nat) (X : Ob) : Prop :=
  ∃ τ, τ ≤ n ∧ X = obj (S τ).H id ∧ (∀ k, k < n → L k → τ ≤ k → Same S k id) ∧ (∀ k, k < n → ¬ L k → k < τ → Same S k id)

theorem At.chain {S : Nat → M} {id i : Nat} : ∀ d, (∀ k, i ≤ k → k < i + d → Same S k id) → obj (S (i + d)).H id = obj (S i).H id
  | 0, _ => rfl
  | d + 1, h => by
    have ih := At.chain (S := S) (id := id) (i := i) d fun k h1 h2 => h k h1 (by omega)
    rw [← ih]
    exact h (i + d) (by omega) (by omega)

theorem At.chain' {S : Nat → M} {id i j : Nat} (hij : i ≤ j) (h : ∀ k, i ≤ k → k < j → Same S k id) : obj (S j).H id = obj (S i).H id := by
  have := At.chain (S := S) (id := id) (i := i) (j - i) fun k h1 h2 => h k h1 (by omega)
  rwa [show i + (j - i) = j by omega] at this

theorem At.func {S : Nat → M} {n : Nat} {L : Nat → Prop} {id : Nat} {X Y : Ob} (hX : At S n L id X) (hY : At S n L id Y) : X = Y := by
  have key : ∀ {τ σ : Nat}, τ ≤ σ → σ ≤ n → (∀ k, k < n → L k → τ ≤ k → Same S k id) → (∀ k, k < n → ¬ L k → k < σ → Same S k id) → obj (S σ).H id = obj (S τ).H id := by
    intro τ σ hle hn h1 h2
    refine At.chain' hle fun k hk hk' => ?_
    by_cases hL : L k
    · exact h1 k (by omega) hL hk
    · exact h2 k (by omega) hL hk'
  obtain ⟨τ, hτ, rfl, a1, a2⟩ := hX
  obtain ⟨σ, hσ, rfl, b1, b2⟩ := hY
  rcases Nat.le_total τ σ with h | h
  · exact (key h hσ a1 b2).symm
  · exact key h hτ b1 a2

/-- One that was not turned stays as it was. -/
theorem At.stay {S : Nat → M} {n : Nat} {L : Nat → Prop} {id j : Nat} {X : Ob} (h : At S n L id X) (hs : Same S j id) : At S n (fun k => L k ∨ k = j) id X := by
  obtain ⟨τ, hτ, hX, h1, h2⟩ := h
  refine ⟨τ, hτ, hX, fun k hk hL hle => ?_, fun k hk hL hlt => h2 k hk (fun h => hL (.inl h)) hlt⟩
  rcases hL with hL | rfl
  · exact h1 k hk hL hle
  · exact hs

section
variable (P : Program) (c : Ctx) (N : Nat) {D : Nat} (ops : Array Oper) (E : Nat → NT D AV) (S : Nat → M)

/-- The steps in the text's order. -/
structure Trace : Prop where
  low : LowOK P c.low
  log : ∃ logf : List Ent, (anyWr logf = true → entOk (bef ops) logf = true) ∧ ∀ k o, ops[k]? = some o → StepK P c N ops logf o k (E k) (S k) (E (k + 1)) (S (k + 1))
  wf0 : WF P (S 0)
  tmps : tmpsOk ops = true
  edges : edgesOk ops.toList 0 = true
  cap : N ≤ capN D
end

section
variable {P : Program} {c : Ctx} {N : Nat} {D : Nat} {ops : Array Oper} {E : Nat → NT D AV} {S : Nat → M}

theorem RunK.from {o : Oper} {e e1 : NT D AV} {m m1 mr : M} {v : AV} (r : RunK P c N ops o e m e1 m1 v mr) (hlow : LowOK P c.low) : Mono P m m1 := by
  have q : Mono P ⟨m.H, m.nx, inf, inf, m.dfs⟩ mr := opD_mono o hlow e (Mono.refl _) v mr r.op
  rw [r.hm]
  refine ⟨q.nx, Nat.min_le_left _ _, Nat.min_le_left _ _, q.cap, fun hc id h1 h2 => q.keep hc id h1 ?_, q.glo, fun hw => ?_, fun h => ?_⟩
  · have h2 : id < min m.wm mr.wm := h2
    omega
  · have := q.wf ⟨hw.gnx, hw.cap, hw.dead⟩
    exact ⟨this.gnx, this.cap, this.dead⟩
  · have h4 : mr.rm ≤ mr.wm := q.rw' (Nat.le_refl _)
    show min m.rm mr.rm ≤ min m.wm mr.wm
    omega

theorem Trace.step1 (T : Trace P c N ops E S) {k : Nat} {o : Oper} (hk : ops[k]? = some o) : Mono P (S k) (S (k + 1)) := by
  obtain ⟨logf, _, h⟩ := T.log
  rcases h k o hk with ⟨v, mr, r, _⟩ | sk
  · exact r.from T.low
  · rw [sk.hm]; exact Mono.refl _

theorem Trace.mono (T : Trace P c N ops E S) {i : Nat} : ∀ d, i + d ≤ ops.size → Mono P (S i) (S (i + d))
  | 0, _ => Mono.refl _
  | d + 1, h => (T.mono d (by omega)).trans (T.step1 (Array.getElem?_eq_getElem (show i + d < ops.size by omega)))

theorem Trace.mono' (T : Trace P c N ops E S) {i j : Nat} (hij : i ≤ j) (hj : j ≤ ops.size) : Mono P (S i) (S j) := by
  have := T.mono (i := i) (j - i) (by omega)
  rwa [show i + (j - i) = j by omega] at this

theorem Trace.wf (T : Trace P c N ops E S) {i : Nat} (hi : i ≤ ops.size) : WF P (S i) := (T.mono' (Nat.zero_le i) hi).wf T.wf0

theorem Trace.opRun (T : Trace P c N ops E S) {k : Nat} {o : Oper} (hk : ops[k]? = some o) {v : AV} {mr : M} (r : RunK P c N ops o (E k) (S k) (E (k + 1)) (S (k + 1)) v mr) : OpRun P o (E k) ⟨(S k).H, (S k).nx, inf, inf, (S k).dfs⟩ v mr :=
  CE.opRun o T.low r.op rfl rfl (T.wf (Nat.le_of_lt (Array.getElem?_eq_some_iff.1 hk).1)).cap

theorem Trace.noted (T : Trace P c N ops E S) : ∃ logf : List Ent, (anyWr logf = true → entOk (bef ops) logf = true) ∧ ∀ k o v mr, ops[k]? = some o → RunK P c N ops o (E k) (S k) (E (k + 1)) (S (k + 1)) v mr → Noted logf (single o.op) k (S k).H (S k).nx mr := by
  obtain ⟨logf, h1, h⟩ := T.log
  refine ⟨logf, h1, fun k o v mr hk r => ?_⟩
  rcases h k o hk with ⟨v', mr', r', hn⟩ | sk
  · have := r.op.symm.trans r'.op
    cases this
    exact hn
  · have := r.gd.symm.trans sk.gd
    cases this

theorem Trace.conf (T : Trace P c N ops E S) {j k : Nat} {oj ok : Oper} {vj vk : AV} {mj mk : M} (hj : ops[j]? = some oj) (hk : ops[k]? = some ok) (rj : RunK P c N ops oj (E j) (S j) (E (j + 1)) (S (j + 1)) vj mj) (rk : RunK P c N ops ok (E k) (S k) (E (k + 1)) (S (k + 1)) vk mk)
    (hne : k ≠ j) {id : Nat} (h1 : id < (S j).nx) (h2 : id < (S k).nx) (hW : Wf (single ok.op) mk id) (hT : Tf (single oj.op) mj id) : cmpB (bef ops) k j = true ∨ (single oj.op = true ∧ obEq (obj (S k).H mj.rm) (obj mk.H mj.rm) = true) := by
  obtain ⟨logf, hok, hn⟩ := T.noted
  have Rj := T.opRun hj rj
  have Rk := T.opRun hk rk
  have wj := T.wf (Nat.le_of_lt (Array.getElem?_eq_some_iff.1 hj).1)
  have wk := T.wf (Nat.le_of_lt (Array.getElem?_eq_some_iff.1 hk).1)
  have hTk := Rk.sub id h2 hW
  have hinf : id ≤ inf := by have := wj.cap; have := inf_big; omega
  have rwj : mj.rm ≤ mj.wm := Rj.mono.rw' (Nat.le_refl _)
  have rwk : mk.rm ≤ mk.wm := Rk.mono.rw' (Nat.le_refl _)
  have wmk := hW.wm
  have rmj := hT.rm
  have rmk := hTk.rm
  rcases hn j oj vj mj hj rj with ⟨a1, _⟩ | ⟨x, hx, x1, _, x3, _, x4, x5, _, _⟩
  · omega
  rcases hn k ok vk mk hk rk with ⟨_, a1⟩ | ⟨y, hy, y1, y2, _, y3, y4, _, y5, y6⟩
  · omega
  have hyw : y.wr = true := by
    rw [y2]
    cases hb : Nat.ble (S k).nx mk.wm with
    | false => rfl
    | true => rw [ble_iff] at hb; omega
  have hany : anyWr logf = true := List.any_eq_true.2 ⟨y, hy, hyw⟩
  have hi : ∀ {one : Bool} {mr : M} {z : Ent}, Tf one mr id → (z.hi = if one = true then mr.rm else inf) → id ≤ z.hi := by
    intro one mr z hz hzi
    rw [hzi]
    unfold Tf at hz
    split
    · rw [if_pos (by assumption)] at hz; omega
    · exact hinf
  have := entOk_spec (hok hany) y hy x hx (by rw [x1, y1]; exact hne) hyw ⟨id, by omega, hi hTk y4, by omega, hi hT x4⟩
  rw [x1, y1, x5, x3, y5, y6] at this
  exact this

/-- Temporaries that a step sets. -/
def Sets (ops : Array Oper) (k : Nat) (t : Tmp) : Prop := ∃ o, ops[k]? = some o ∧ o.dst = some t

theorem get_putE {N : Nat} (hN : N ≤ capN D) {dst : Option Tmp} {e : NT D AV} {v : AV} {t : Nat} (ht : t < capN D) (hne : dst ≠ some t) : (getN D t).f (putE N dst e v) = (getN D t).f e := by
  unfold putE
  cases dst with
  | none => rfl
  | some d =>
    unfold putD
    simp only [iff_ble]
    split
    · rename_i hd
      rw [setN_eq]
      show (getN D t).f (updN D d e v) = _
      rw [get_upd D d t e v (by omega) ht, if_neg (fun h => hne (by rw [h]))]
    · rfl

theorem Trace.setStep (T : Trace P c N ops E S) {k : Nat} (hk : k < ops.size) {t : Nat} (ht : t < capN D) (hs : ¬ Sets ops k t) : (getN D t).f (E (k + 1)) = (getN D t).f (E k) := by
  obtain ⟨logf, _, h⟩ := T.log
  have hko := Array.getElem?_eq_getElem hk
  have hne : ops[k].dst ≠ some t := fun h => hs ⟨_, hko, h⟩
  rcases h k _ hko with ⟨v, mr, r, _⟩ | sk
  · rw [r.he]; exact get_putE T.cap ht hne
  · rw [sk.he]; exact get_putE T.cap ht hne

theorem Trace.setChain (T : Trace P c N ops E S) {i : Nat} {t : Nat} (ht : t < capN D) : ∀ d, i + d ≤ ops.size → (∀ k, i ≤ k → k < i + d → ¬ Sets ops k t) → (getN D t).f (E (i + d)) = (getN D t).f (E i)
  | 0, _, _ => rfl
  | d + 1, hn, h => by
    rw [← T.setChain ht d (by omega) fun k h1 h2 => h k h1 (by omega)]
    exact T.setStep (k := i + d) (by omega) ht (h (i + d) (by omega) (by omega))

theorem Trace.setChain' (T : Trace P c N ops E S) {i j : Nat} {t : Nat} (ht : t < capN D) (hij : i ≤ j) (hj : j ≤ ops.size) (h : ∀ k, i ≤ k → k < j → ¬ Sets ops k t) : (getN D t).f (E j) = (getN D t).f (E i) := by
  have := T.setChain (i := i) ht (j - i) (by omega) fun k h1 h2 => h k h1 (by omega)
  rwa [show i + (j - i) = j by omega] at this

theorem cmp_bit {b : List Nat} {i j : Nat} (hlt : i < j) (h : cmpB b i j = true ∨ cmpB b j i = true) : (b.getD j 0).testBit i = true := by
  unfold cmpB at h
  rw [Nat.max_eq_right (by omega), Nat.min_eq_left (by omega), Nat.max_eq_left (by omega), Nat.min_eq_right (by omega)] at h
  exact h.elim id id

end

/-! ### What is so once those of L are done -/

section
variable (P : Program) (B0 : Nat) (A : Nat → Prop) (N : Nat) {D : Nat} (ops : Array Oper) (E : Nat → NT D AV) (S : Nat → M) (ρ0 : Rho) (w0 : World) (ds : List Deferred)

structure Inv (L : Nat → Prop) (a : Act) (w : World) (ρ : Rho) (eS : NT D AV) : Prop where
  cl : ∀ k, L k → ∀ o, ops[k]? = some o → ∀ e ∈ o.after, Region.binds .any e = true → L e.on
  env : ENV ρ N D eS a.tmps
  tm : ∀ t, t < capN D → ∃ τ, τ ≤ ops.size ∧ (getN D t).f eS = (getN D t).f (E τ) ∧ (∀ k, k < ops.size → L k → τ ≤ k → ¬ Sets ops k t) ∧ (∀ k, k < ops.size → ¬ L k → k < τ → ¬ Sets ops k t)
  defers : a.defers = ds
  dfs : ∀ k, k < ops.size → L k → (S (k + 1)).dfs = (S k).dfs
  ext : Ext ρ0 ρ
  dom : ∀ id s, ρ id = some s → ρ0 id = some s ∨ ∃ k, k < ops.size ∧ L k ∧ (S k).nx ≤ id ∧ id < (S (k + 1)).nx
  gb : glb P ≤ B0
  b0 : B0 ≤ w.heap.size
  cap : ∀ id s, ρ id = some s → id < capN hd
  lt : ∀ id s, ρ id = some s → s.blk < w.heap.size
  glob : ∀ g, g < glb P → ρ g = some ⟨g, 0, 0⟩
  own : ∀ id s, ρ id = some s → glb P ≤ id → B0 ≤ s.blk
  val : ∀ id s, ρ id = some s → (A id ∨ id < glb P) → ∃ X, At S ops.size L id X ∧ OR ρ s X w.heap[s.blk]?
  inj : ∀ id id' s s' X X', A id → A id' → glb P ≤ id → glb P ≤ id' → ρ id = some s → ρ id' = some s' → At S ops.size L id X → At S ops.size L id' X' → X ≠ .dead → X' ≠ .dead → s.blk = s'.blk → id = id'
  kn : ∀ k, k < ops.size → L k → ∀ id, id < (S k).nx → ρ id = none → Same S k id
  dk : ∀ k, k < ops.size → L k → ∀ id, id < (S k).nx → obj (S k).H id = .dead → obj (S (k + 1)).H id = .dead
  dd : ∀ id s, id < (S 0).nx → ρ0 id = some s → A id → obj (S 0).H id = .dead → At S ops.size L id .dead
  size : w0.heap.size ≤ w.heap.size
  frame : ∀ b, b < w0.heap.size → (∀ id s, ρ0 id = some s → glb P ≤ id → (S ops.size).wm ≤ id → Live (S 0).H id → s.blk ≠ b) → w.heap[b]? = w0.heap[b]?
  nb : ∀ id s, ρ id = some s → ρ0 id = none → w0.heap.size ≤ s.blk ∨ ∃ id0 s0, ρ0 id0 = some s0 ∧ glb P ≤ id0 ∧ (S ops.size).wm ≤ id0 ∧ Live (S 0).H id0 ∧ s0.blk = s.blk
  tape : w.tape = w0.tape
  os : w.os = w0.os
  out : w.output = w0.output

/-- What a step looks at, and turns. -/
structure Foot (j : Nat) (Tj Wj : Nat → Prop) : Prop where
  keep : ∀ id, id < (S j).nx → ¬ Wj id → Same S j id
  sub : ∀ id, id < (S j).nx → Wj id → Tj id
  inA : ∀ id, id < (S j).nx → Tj id → A id
  wm : ∀ id, id < (S j).nx → Wj id → (S ops.size).wm ≤ id
  conf : ∀ k, k < ops.size → k ≠ j → ∀ id, id < (S j).nx → id < (S k).nx → Tj id → ¬ Same S k id → cmpB (bef ops) k j = true

end

section
variable {P : Program} {B0 : Nat} {A : Nat → Prop} {c : Ctx} {N : Nat} {D : Nat} {ops : Array Oper} {E : Nat → NT D AV} {S : Nat → M} {ρ0 ρ ρ' : Rho} {w0 w w' : World} {ds : List Deferred} {L : Nat → Prop} {a : Act} {eS : NT D AV} {j : Nat} {o : Oper} {Tj Wj : Nat → Prop}

theorem Trace.glo (T : Trace P c N ops E S) {k : Nat} (hk : k < ops.size) {id : Nat} (hg : id < glb P) : Same S k id :=
  (T.step1 (Array.getElem?_eq_getElem hk)).glo (T.wf (Nat.le_of_lt hk)).cap id (Nat.lt_of_lt_of_le hg (T.wf (Nat.le_of_lt hk)).gnx) hg

/-- Beyond what is there all is dead. -/
theorem Trace.beyond (T : Trace P c N ops E S) {k : Nat} (hk : k < ops.size) {id : Nat} (hc : id < capN hd) (h : (S (k + 1)).nx ≤ id) : Same S k id := by
  have h1 := (T.wf (show k + 1 ≤ ops.size by omega)).dead id h hc
  have h2 := (T.wf (Nat.le_of_lt hk)).dead id (Nat.le_trans (T.step1 (Array.getElem?_eq_getElem hk)).nx h) hc
  exact h1.trans h2.symm

theorem Inv.prev (I : Inv P B0 A N ops E S ρ0 w0 ds L a w ρ eS) {k i : Nat} (hk : k < ops.size) (hL : L k) (hlt : i < k) (h : cmpB (bef ops) i k = true ∨ cmpB (bef ops) k i = true) : L i :=
  bef_done I.cl k _ (Array.getElem?_eq_getElem hk) (fun e he hb => I.cl k hL _ (Array.getElem?_eq_getElem hk) e he hb) i (cmp_bit hlt h)

theorem Inv.agree (I : Inv P B0 A N ops E S ρ0 w0 ds L a w ρ eS) (T : Trace P c N ops E S) (hj : ops[j]? = some o) (hn : ¬ L j) (hed : ∀ e ∈ o.after, Region.binds .any e = true → L e.on) {k : Nat} (hk : k < ops.size) {t : Tmp} (ht : t ∈ namesOf ops o) (hs : Sets ops k t) : (k < j → L k) ∧ (j < k → ¬ L k) := by
  obtain ⟨ok, hok, hd⟩ := hs
  refine ⟨fun hlt => ?_, fun hlt hL => ?_⟩
  · have := tmpsOk_spec T.tmps hj hok (by omega) hd ht
    exact bef_done I.cl j o hj hed k (cmp_bit hlt (.inr this))
  · have := tmpsOk_spec T.tmps hj hok (by omega) hd ht
    exact hn (I.prev hk hL hlt (.inl this))

/-- The temporaries that it looks at are as in the text's order. -/
theorem Inv.looks (I : Inv P B0 A N ops E S ρ0 w0 ds L a w ρ eS) (T : Trace P c N ops E S) (hj : ops[j]? = some o) (hn : ¬ L j) (hed : ∀ e ∈ o.after, Region.binds .any e = true → L e.on) {t : Tmp} (htc : t < capN D) (ht : t ∈ namesOf ops o) :
    (getN D t).f (E j) = (getN D t).f eS := by
  obtain ⟨τ, hτ, he, h1, h2⟩ := I.tm t htc
  have hjn : j < ops.size := (Array.getElem?_eq_some_iff.1 hj).1
  rw [he]
  rcases Nat.le_total τ j with hle | hle
  · refine T.setChain' htc hle (by omega) fun k hk hk' hs => ?_
    have := (I.agree T hj hn hed (by omega) ht hs).1 hk'
    exact h1 k (by omega) this hk hs
  · refine (T.setChain' htc hle hτ fun k hk hk' hs => ?_).symm
    by_cases hL : L k
    · have hne : k ≠ j := fun e => hn (e ▸ hL)
      exact (I.agree T hj hn hed (by omega) ht hs).2 (by omega) hL
    · exact h2 k (by omega) hL hk' hs

theorem Inv.alike (I : Inv P B0 A N ops E S ρ0 w0 ds L a w ρ eS) (T : Trace P c N ops E S) (hj : ops[j]? = some o) (hn : ¬ L j) (hed : ∀ e ∈ o.after, Region.binds .any e = true → L e.on) : ∀ x ∈ o.op.operands.toList, Alike P (E j) eS x := by
  intro x hx
  cases x with
  | tmp t =>
    show (iff (Nat.ble (Nat.succ t) (capN D)) (getN D t) ⟨fun _ => undefA⟩ : Fn1 (NT D AV) AV).f (E j) = (iff (Nat.ble (Nat.succ t) (capN D)) (getN D t) ⟨fun _ => undefA⟩ : Fn1 (NT D AV) AV).f eS
    rw [iff_ble]
    split
    · rename_i hlt
      refine I.looks T hj hn hed hlt ?_
      exact List.mem_append_right _ (List.mem_append_left _ (List.mem_filterMap.2 ⟨.tmp t, hx, rfl⟩))
    · rfl
  | const v => exact Eq.refl _
  | global g =>
    show (iff (Nat.ble (Nat.succ g) P.globals.size) ⟨fun _ => .c (.ref (.ptr g 0))⟩ ⟨fun _ => .top⟩ : Fn1 (NT D AV) AV).f (E j) = (iff (Nat.ble (Nat.succ g) P.globals.size) ⟨fun _ => .c (.ref (.ptr g 0))⟩ ⟨fun _ => .top⟩ : Fn1 (NT D AV) AV).f eS
    rw [iff_ble]; split <;> rfl
  | func f => exact Eq.refl _

theorem Inv.guard (I : Inv P B0 A N ops E S ρ0 w0 ds L a w ρ eS) (T : Trace P c N ops E S) (hj : ops[j]? = some o) (hn : ¬ L j) (hed : ∀ e ∈ o.after, Region.binds .any e = true → L e.on) : (guardD N ops o).f (E j) = (guardD N ops o).f eS := by
  unfold guardD
  split
  · rfl
  · rename_i q want hq
    split
    · rfl
    · rename_i t ht
      rw [iff_ble]
      split
      · rename_i hlt
        have : (getN D t).f (E j) = (getN D t).f eS := by
          refine I.looks T hj hn hed (Nat.lt_of_lt_of_le hlt T.cap) ?_
          refine List.mem_append_right _ (List.mem_append_right _ ?_)
          rw [hq]
          show t ∈ ((ops[q]?).bind (·.dst)).toList
          rw [ht]; simp
        show gdOf want _ = gdOf want _
        rw [this]
      · rfl

/-- What a step looks at is as in the text's order. -/
theorem Inv.now (I : Inv P B0 A N ops E S ρ0 w0 ds L a w ρ eS) (T : Trace P c N ops E S) (hf0 : Fresh ρ0 (S 0) (S ops.size)) (hj : ops[j]? = some o) (hn : ¬ L j) (hed : ∀ e ∈ o.after, Region.binds .any e = true → L e.on) (Ft : Foot A ops S j Tj Wj)
    {id : Nat} {s : Seg} (hs : ρ id = some s) (hid : id < (S j).nx) (hT : Tj id) : (∀ k, k < ops.size → L k → j ≤ k → Same S k id) ∧ (∀ k, k < ops.size → ¬ L k → k < j → Same S k id) := by
  have hjn : j < ops.size := (Array.getElem?_eq_some_iff.1 hj).1
  refine ⟨fun k hk hL hle => ?_, fun k hk hL hlt => ?_⟩
  · refine Classical.byContradiction fun hns => ?_
    have hne : k ≠ j := fun e => hn (e ▸ hL)
    have hnx : (S j).nx ≤ (S k).nx := (T.mono' hle (by omega)).nx
    exact hn (I.prev hk hL (by omega) (.inr (Ft.conf k hk hne id hid (by omega) hT hns)))
  · refine Classical.byContradiction fun hns => ?_
    rcases Nat.lt_or_ge id (S k).nx with h1 | h1
    · exact hL (bef_done I.cl j o hj hed k (cmp_bit hlt (.inl (Ft.conf k hk (by omega) id hid h1 hT hns))))
    · rcases Nat.lt_or_ge id (S (k + 1)).nx with h2 | h2
      · have a0 : (S 0).nx ≤ (S k).nx := (T.mono' (Nat.zero_le k) (by omega)).nx
        have a1 : (S (k + 1)).nx ≤ (S ops.size).nx := (T.mono' (show k + 1 ≤ ops.size by omega) (Nat.le_refl _)).nx
        rcases I.dom id s hs with h3 | ⟨k', hk', hL', h4, h5⟩
        · rw [hf0 id (by omega) (by omega)] at h3; cases h3
        · have hne : k' ≠ k := fun e => hL (e ▸ hL')
          rcases Nat.lt_or_ge k' k with h6 | h6
          · have := (T.mono' (show k' + 1 ≤ k by omega) (by omega)).nx; omega
          · have := (T.mono' (show k + 1 ≤ k' by omega) (by omega)).nx; omega
      · exact hns (T.beyond hk (I.cap id s hs) h2)

theorem Inv.atNow (I : Inv P B0 A N ops E S ρ0 w0 ds L a w ρ eS) (T : Trace P c N ops E S) (hf0 : Fresh ρ0 (S 0) (S ops.size)) (hj : ops[j]? = some o) (hn : ¬ L j) (hed : ∀ e ∈ o.after, Region.binds .any e = true → L e.on) (Ft : Foot A ops S j Tj Wj)
    {id : Nat} {s : Seg} (hs : ρ id = some s) (hid : id < (S j).nx) (hT : Tj id) : At S ops.size L id (obj (S j).H id) ∧ At S ops.size (fun k => L k ∨ k = j) id (obj (S (j + 1)).H id) := by
  have hjn : j < ops.size := (Array.getElem?_eq_some_iff.1 hj).1
  obtain ⟨h1, h2⟩ := I.now T hf0 hj hn hed Ft hs hid hT
  refine ⟨⟨j, by omega, rfl, h1, h2⟩, ⟨j + 1, by omega, rfl, fun k hk hL hle => ?_, fun k hk hL hlt => ?_⟩⟩
  · rcases hL with hL | hL
    · exact h1 k hk hL (by omega)
    · omega
  · exact h2 k hk (fun h => hL (.inl h)) (by have : k ≠ j := fun e => hL (.inr e); omega)

theorem Trace.atGlob (T : Trace P c N ops E S) {id : Nat} (hg : id < glb P) {τ : Nat} (hτ : τ ≤ ops.size) (L : Nat → Prop) : At S ops.size L id (obj (S τ).H id) :=
  ⟨τ, hτ, rfl, fun _k hk _ _ => T.glo hk hg, fun _k hk _ _ => T.glo hk hg⟩

/-- What is said of the world, for a step. -/
theorem Inv.rel (I : Inv P B0 A N ops E S ρ0 w0 ds L a w ρ eS) (T : Trace P c N ops E S) (hf0 : Fresh ρ0 (S 0) (S ops.size)) (hj : ops[j]? = some o) (hn : ¬ L j) (hed : ∀ e ∈ o.after, Region.binds .any e = true → L e.on) (Ft : Foot A ops S j Tj Wj) :
    Rel P B0 (fun id => (id < (S j).nx ∧ Tj id) ∨ (S j).nx ≤ id) ρ (S j).H w := by
  have hjn : j < ops.size := (Array.getElem?_eq_some_iff.1 hj).1
  have wfj := T.wf (Nat.le_of_lt hjn)
  have lv : ∀ id s, ρ id = some s → Live (S j).H id → id < (S j).nx := fun id s hs hl => by
    rcases Nat.lt_or_ge id (S j).nx with h | h
    · exact h
    · exact absurd (wfj.dead id h (I.cap id s hs)) hl
  refine ⟨I.gb, I.b0, I.cap, I.lt, I.glob, I.own, ?_, ?_⟩
  · intro id id' s s' hA hA' hg hg' hs hs' hl hl' hb
    have h1 := lv id s hs hl
    have h1' := lv id' s' hs' hl'
    have hT : Tj id := by rcases hA with hA | hA; exact hA.2; omega
    have hT' : Tj id' := by rcases hA' with hA | hA; exact hA.2; omega
    exact I.inj id id' s s' _ _ (Ft.inA id h1 hT) (Ft.inA id' h1' hT') hg hg' hs hs' (I.atNow T hf0 hj hn hed Ft hs h1 hT).1 (I.atNow T hf0 hj hn hed Ft hs' h1' hT').1 hl hl' hb
  · intro id s hs hA
    by_cases hd : obj (S j).H id = .dead
    · rw [hd]; trivial
    · have h1 := lv id s hs hd
      rcases hA with (⟨_, hT⟩ | hA) | hg
      · obtain ⟨X, hX, hO⟩ := I.val id s hs (.inl (Ft.inA id h1 hT))
        rw [← hX.func (I.atNow T hf0 hj hn hed Ft hs h1 hT).1]; exact hO
      · omega
      · obtain ⟨X, hX, hO⟩ := I.val id s hs (.inr hg)
        rw [← hX.func (T.atGlob hg (Nat.le_of_lt hjn) L)]; exact hO

end

end Go.CE
