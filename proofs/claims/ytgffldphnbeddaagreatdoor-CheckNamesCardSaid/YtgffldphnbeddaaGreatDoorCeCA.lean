/- A run in segments: what is said of the world between them is told by plain data, what nobody asks any more left out. No program is named. -/
import Derived.Test.YtgffldphnbeddaaGreatDoorCeAA
noncomputable section
namespace Go.CE
open Go Go.RowKit

/-! ### What is told between segments -/

structure Snap where
  es : List AV
  L : List (Nat × Ob)
  nx : Nat
  dfs : List Nat

def lk (id : Nat) : List (Nat × Ob) → Ob → Ob
  | [], ob => ob
  | x :: r, ob => lk id r (if id = x.1 then x.2 else ob)

def bldH {β : Type} : List (Nat × Ob) → NT hd Ob → (NT hd Ob → β) → β
  | [], H, k => k H
  | x :: r, H, k => (setN hd x.1).f H x.2 fun H => bldH r H k

def idsOk : List (Nat × Ob) → Nat → Bool
  | [], _ => true
  | x :: r, nx => Nat.ble (Nat.succ x.1) nx && idsOk r nx

theorem bldH_ok {β : Type} {nx : Nat} (hnx : nx ≤ capN hd) : ∀ (l : List (Nat × Ob)) (H : NT hd Ob) (k : NT hd Ob → β), idsOk l nx = true → ∃ H', bldH l H k = k H' ∧ ∀ id, id < capN hd → obj H' id = lk id l (obj H id)
  | [], H, k, _ => ⟨H, rfl, fun _ _ => rfl⟩
  | x :: r, H, k, h => by
    simp only [idsOk, Bool.and_eq_true, ble_iff] at h
    obtain ⟨H', h1, h2⟩ := bldH_ok hnx r (updN hd x.1 H x.2) k h.2
    refine ⟨H', ?_, fun id hid => ?_⟩
    · show (setN hd x.1).f H x.2 (fun H => bldH r H k) = _
      rw [setN_eq]; exact h1
    · rw [h2 id hid, obj_upd (by omega) hid]; rfl

/-- What it is told of. -/
structure Desc (s : Snap) {D : Nat} (e : NT D AV) (m : M) : Prop where
  env : ∀ i, i < capN D → (getN D i).f e = s.es.getD i .top
  mem : ∀ id, id < capN hd → obj m.H id = lk id s.L .dead
  nx : m.nx = s.nx
  dfs : m.dfs = s.dfs

section
variable (P : Program) (N : Nat) {D : Nat}

/-- The world between two segments. -/
def St (W : World) (e : NT D AV) (m : M) (a : Act) (w : World) : Prop :=
  ∃ ρ, WF P m ∧ Rel P W.heap.size (fun _ => True) ρ m.H w ∧ ENV ρ N D e a.tmps ∧ (∀ id, m.nx ≤ id → ρ id = none) ∧ DR ρ m.dfs a.defers ∧ Below W.heap.size W w

variable (D) in
def StS (W : World) (s : Snap) (a : Act) (w : World) : Prop := ∃ (e : NT D AV) (m : M), Desc s e m ∧ St P N W e m a w

variable (D) in
/-- Code that leads from here to there. -/
def RunsTo (c : Code) (s : Snap) (x : Ex) (s' : Snap) : Prop :=
  ∀ (W : World) (a : Act) (w : World) (n : Nat) (Q : Exit → Act → World → Prop), StS P N D W s a w → (∀ a' w', StS P N D W s' a' w' → Q (exOf x) a' w') → c.wpIn Fence.wide n P Q a w

variable (D) in
def RunsL (c : Code) (k : Nat) (s : Snap) (x : Ex) (s' : Snap) : Prop :=
  ∀ (W : World) (a : Act) (w : World) (n : Nat) (Q : Exit → Act → World → Prop), StS P N D W s a w → (∀ a' w', StS P N D W s' a' w' → Q (exOf x) a' w') → Code.roundsIn Fence.wide n P c Q k a w

end

section
variable {P : Program} {N D : Nat}

/-- Less is said. -/
theorem St.weak {W : World} {e e' : NT D AV} {m m' : M} {a : Act} {w : World} (h : St P N W e m a w) (he : ∀ i, i < capN D → (getN D i).f e' = .top ∨ (getN D i).f e' = (getN D i).f e)
    (hm : ∀ id, id < capN hd → obj m'.H id = .dead ∨ obj m'.H id = obj m.H id) (hnx : m'.nx = m.nx) (hdfs : m'.dfs = m.dfs) : St P N W e' m' a w := by
  obtain ⟨ρ, hw, hr, hen, hf, hdr, hb⟩ := h
  have lv : ∀ id, id < capN hd → Live m'.H id → obj m'.H id = obj m.H id := fun id hid hl => (hm id hid).resolve_left hl
  refine ⟨ρ, ⟨by rw [hnx]; exact hw.gnx, by rw [hnx]; exact hw.cap, fun id h1 h2 => ?_⟩, ⟨hr.gb, hr.b0, hr.cap, hr.lt, hr.glob, hr.own, ?_, ?_⟩, ⟨hen.size, hen.cap, fun i hi => ?_⟩, by rw [hnx]; exact hf, by rw [hdfs]; exact hdr, hb⟩
  · rcases hm id h2 with h | h
    · exact h
    · rw [h]; exact hw.dead id (by rw [← hnx]; exact h1) h2
  · intro id id' s s' hA hA' hg hg' hs hs' hl hl' e
    refine hr.inj id id' s s' hA hA' hg hg' hs hs' ?_ ?_ e
    · have := lv id (hr.cap id s hs) hl
      unfold Live at hl ⊢
      rw [← this]; exact hl
    · have := lv id' (hr.cap id' s' hs') hl'
      unfold Live at hl' ⊢
      rw [← this]; exact hl'
  · intro id s hs hA
    rcases hm id (hr.cap id s hs) with h | h
    · rw [h]; trivial
    · rw [h]; exact hr.rows id s hs hA
  · rcases he i hi with h | h
    · rw [h]; trivial
    · rw [h]; exact hen.get i hi

theorem lk_cases (id : Nat) : ∀ (l : List (Nat × Ob)) (ob : Ob), lk id l ob = ob ∨ ∃ x ∈ l, x.1 = id ∧ lk id l ob = x.2
  | [], ob => .inl rfl
  | x :: r, ob => by
    rcases lk_cases id r (if id = x.1 then x.2 else ob) with h | ⟨y, hy, h1, h2⟩
    · by_cases hx : id = x.1
      · rw [if_pos hx] at h
        exact .inr ⟨x, by simp, hx.symm, by simp only [lk, if_pos hx]; exact h⟩
      · rw [if_neg hx] at h
        exact .inl (by simp only [lk, if_neg hx]; exact h)
    · exact .inr ⟨y, by simp [hy], h1, h2⟩

/-! ### A segment, worked out -/

def exEq : Ex → Ex → Bool
  | .norm, .norm => true
  | .exit a, .exit b => Nat.beq a b
  | .goto a, .goto b => Nat.beq a b
  | .ret, .ret => true
  | _, _ => false

theorem exEq_ok {a b : Ex} (h : exEq a b = true) : a = b := by
  unfold exEq at h
  split at h
  · rfl
  · rw [beq_ok h]
  · rw [beq_ok h]
  · rfl
  · cases h

def avLe (v w : AV) : Bool :=
  match v with
  | .top => true
  | v => avEq v w

def envLe (D : Nat) (e : NT D AV) : List AV → Nat → Bool
  | [], _ => true
  | v :: r, i => avLe v ((getN D i).f e) && envLe D e r (Nat.succ i)

def memLe (H : NT hd Ob) : List (Nat × Ob) → Bool
  | [] => true
  | x :: r => obEq x.2 ((getN hd x.1).f H) && memLe H r

def sameNats : List Nat → List Nat → Bool
  | [], [] => true
  | a :: l, b :: m => Nat.beq a b && sameNats l m
  | _, _ => false

theorem sameNats_ok : ∀ {l m : List Nat}, sameNats l m = true → l = m
  | [], [], _ => rfl
  | [], _ :: _, h => by cases h
  | _ :: _, [], h => by cases h
  | a :: l, b :: m, h => by
    simp only [sameNats, Bool.and_eq_true] at h
    rw [beq_ok h.1, sameNats_ok h.2]

def segEnd (x : Ex) (s' : Snap) {D : Nat} (x1 : Ex) (e1 : NT D AV) (m1 : M) : Bool :=
  exEq x x1 && Nat.beq m1.nx s'.nx && sameNats m1.dfs s'.dfs && idsOk s'.L s'.nx && envLe D e1 s'.es 0 && memLe m1.H s'.L

/-- From here to there? -/
def segB (P : Program) (N D : Nat) (cx : Ctx) (c : Code) (s : Snap) (x : Ex) (s' : Snap) : Bool :=
  iff (idsOk s.L s.nx && Nat.ble s.nx (capN hd)) (bld AV.top D s.es fun e _ => bldH s.L (fullN Ob.dead hd) fun H => onEx ((den P N c).run.f cx e ⟨H, s.nx, inf, inf, s.dfs⟩) (fun _ => false) (segEnd x s')) false

theorem envLe_ok {e : NT D AV} : ∀ (l : List AV) (i : Nat), envLe D e l i = true → ∀ j, l.getD j .top = .top ∨ l.getD j .top = (getN D (i + j)).f e
  | [], _, _, j => .inl (by simp)
  | v :: r, i, h, j => by
    simp only [envLe, Bool.and_eq_true] at h
    cases j with
    | zero =>
      have h1 := h.1
      unfold avLe at h1
      split at h1
      · exact .inl rfl
      · exact .inr (avEq_ok h1)
    | succ j =>
      have := envLe_ok r (i + 1) h.2 j
      rw [show i + (j + 1) = i + 1 + j by omega]
      simpa using this

theorem memLe_ok {H : NT hd Ob} : ∀ {l : List (Nat × Ob)}, memLe H l = true → ∀ x ∈ l, x.2 = obj H x.1
  | [], _, x, hx => by cases hx
  | y :: r, h, x, hx => by
    simp only [memLe, Bool.and_eq_true] at h
    rcases List.mem_cons.1 hx with rfl | hx
    · exact obEq_ok h.1
    · exact memLe_ok h.2 x hx

theorem onEx_true {r : R D} {k : Ex → NT D AV → M → Bool} (h : onEx r (fun _ => false) k = true) : ∃ x e m, r = .ok x e m ∧ k x e m = true := by
  cases r with
  | fail w => cases h
  | ok x e m => exact ⟨x, e, m, rfl, h⟩

theorem StS.code {c : Code} (hden : DenOK P) {cx : Ctx} (hlow : LowOK P cx.low) (hrnd : cx.rnd = none) {e : NT D AV} {m : M} {x : Ex} {e' : NT D AV} {m' : M} (hd : (den P N c).run.f cx e m = .ok x e' m') {W : World} {a : Act} {w : World} (hs : St P N W e m a w) (n : Nat)
    {Q : Exit → Act → World → Prop} (hQ : ∀ a' w', St P N W e' m' a' w' → Q (exOf x) a' w') : c.wpIn Fence.wide n P Q a w := by
  obtain ⟨ρ, hw, hr, hen, hf, hdr, hb⟩ := hs
  refine (hden N D c).on hlow hd hw (fun _ _ => trivial) hr hen (fun id h1 _ => hf id h1) hdr (by rw [hrnd]; exact rfl) n fun a' w' ρ' g => hQ a' w' ⟨ρ', g.post.wf, g.post.rel, g.env, fun id hid => ?_, g.dfs, hb.trans ⟨g.post.os, g.post.tape, g.post.out, g.post.size, fun b hb' => g.post.frame b (Nat.lt_of_lt_of_le hb' hr.b0) fun id s hs hg _ _ => ?_⟩⟩
  · cases hi : ρ' id with
    | none => rfl
    | some s =>
      rcases g.post.dom id s hi with h | h
      · rw [hf id (Nat.le_trans g.post.nx hid)] at h; cases h
      · omega
  · have := hr.own id s hs hg
    omega

theorem RunsTo.seg {c : Code} (hden : DenOK P) {cx : Ctx} (hlow : LowOK P cx.low) (hrnd : cx.rnd = none) {s s' : Snap} {x : Ex} (h : segB P N D cx c s x s' = true) : RunsTo P N D c s x s' := by
  intro W a w n Q ⟨e, m, hds, hs⟩ hQ
  unfold segB at h
  rw [iff_eq] at h
  split at h
  · rename_i h0
    simp only [Bool.and_eq_true, ble_iff] at h0
    obtain ⟨t, h1, h2⟩ := bld_ok AV.top D s.es (fun e _ => bldH s.L (fullN Ob.dead hd) fun H => onEx ((den P N c).run.f cx e ⟨H, s.nx, inf, inf, s.dfs⟩) (fun _ => false) (segEnd x s'))
    rw [h1] at h
    obtain ⟨H, h3, h4⟩ := bldH_ok h0.2 s.L (fullN Ob.dead CE.hd) (fun H => onEx ((den P N c).run.f cx t ⟨H, s.nx, inf, inf, s.dfs⟩) (fun _ => false) (segEnd x s')) h0.1
    rw [h3] at h
    obtain ⟨x1, e1, m1, h5, h6⟩ := onEx_true h
    have hs0 : St P N W t (⟨H, s.nx, inf, inf, s.dfs⟩ : M) a w := hs.weak (fun i hi => .inr (by rw [h2 i hi, hds.env i hi])) (fun id hid => .inr (by
      show obj H id = _
      rw [h4 id hid, hds.mem id hid]
      have : obj (fullN Ob.dead CE.hd) id = .dead := get_full Ob.dead CE.hd id hid
      rw [this])) hds.nx.symm hds.dfs.symm
    unfold segEnd at h6
    simp only [Bool.and_eq_true] at h6
    obtain ⟨⟨⟨⟨⟨g1, g2⟩, g3⟩, g4⟩, g5⟩, g6⟩ := h6
    have g1 := exEq_ok g1
    subst g1
    refine StS.code hden hlow hrnd h5 hs0 n fun a' w' hs1 => hQ a' w' ?_
    obtain ⟨t', _, k2⟩ := bld_ok AV.top D s'.es (fun e _ => e)
    have hcap : s'.nx ≤ capN hd := by
      obtain ⟨_, hw, _⟩ := hs1
      rw [← beq_ok g2]; exact hw.cap
    obtain ⟨H', _, k4⟩ := bldH_ok hcap s'.L (fullN Ob.dead CE.hd) (fun H => H) g4
    have hdead : ∀ id, id < capN hd → obj H' id = lk id s'.L .dead := fun id hid => by
      rw [k4 id hid]
      have : obj (fullN Ob.dead CE.hd) id = .dead := get_full Ob.dead CE.hd id hid
      rw [this]
    refine ⟨t', ⟨H', s'.nx, inf, inf, s'.dfs⟩, ⟨k2, hdead, rfl, rfl⟩, hs1.weak (fun i hi => ?_) (fun id hid => ?_) (beq_ok g2).symm (sameNats_ok g3).symm⟩
    · rw [k2 i hi]
      have := envLe_ok s'.es 0 g5 i
      rwa [Nat.zero_add] at this
    · show obj H' id = .dead ∨ obj H' id = _
      rw [hdead id hid]
      rcases lk_cases id s'.L .dead with h | ⟨y, hy, h7, h8⟩
      · exact .inl h
      · exact .inr (by rw [h8, memLe_ok g6 y hy, h7])
  · cases h

/-! ### Put together -/

theorem RunsTo.seq {c1 c2 : Code} {s s1 s2 : Snap} {x : Ex} (h1 : RunsTo P N D c1 s .norm s1) (h2 : RunsTo P N D c2 s1 x s2) : RunsTo P N D (.seq c1 c2) s x s2 := fun W a w n Q hs hQ =>
  wpIn_seq (h1 W a w n _ hs fun a' w' hs' => h2 W a' w' n Q hs' hQ)

theorem RunsTo.seqOut {c1 c2 : Code} {s s1 : Snap} {x : Ex} (hx : x ≠ .norm) (h1 : RunsTo P N D c1 s x s1) : RunsTo P N D (.seq c1 c2) s x s1 := fun W a w n _Q hs hQ =>
  wpIn_seq (h1 W a w n _ hs fun a' w' hs' => then_other hx (hQ a' w' hs'))

theorem RunsTo.cond {o : Operand} {c1 c2 : Code} {s s1 : Snap} {x : Ex} (t : Bool) (ht : ∀ (e : NT D AV) (m : M), Desc s e m → (evO P o).f e = .c (.bool t)) (h : RunsTo P N D (if t then c1 else c2) s x s1) : RunsTo P N D (.cond o c1 c2) s x s1 := fun W a w n Q hs hQ => by
  obtain ⟨e, m, hd, ρ, hw, hr, hen, hf, hdr, hb⟩ := id hs
  have hv := hen.eval hr.glob o
  rw [ht e m hd] at hv
  have hv : a.eval o = .bool t := hv
  refine wpIn_cond hv ?_
  cases t
  · exact h W a w n Q hs hQ
  · exact h W a w n Q hs hQ

/-- What an operand is, by what is told. -/
theorem Desc.tmp {s : Snap} {e : NT D AV} {m : M} (h : Desc s e m) {t : Tmp} (ht : t < capN D) : (evO P (.tmp t)).f e = s.es.getD t .top := by
  show (iff (Nat.ble (Nat.succ t) (capN D)) (getN D t) ⟨fun _ => undefA⟩ : Fn1 (NT D AV) AV).f e = _
  rw [iff_ble, if_pos (Nat.succ_le_of_lt ht)]
  exact h.env t ht

theorem RunsTo.block {id : Nat} {c : Code} {s s1 : Snap} (h : RunsTo P N D c s .norm s1 ∨ RunsTo P N D c s (.exit id) s1) : RunsTo P N D (.block id c) s .norm s1 := fun W a w n Q hs hQ => by
  rcases h with h | h
  · exact wpIn_block (h W a w n _ hs fun a' w' hs' => hQ a' w' hs')
  · exact wpIn_block (h W a w n _ hs fun a' w' hs' => by simp only [exOf, Exit.inBlock, if_true]; exact hQ a' w' hs')

theorem RunsTo.blockOut {id : Nat} {c : Code} {s s1 : Snap} {x : Ex} (hx : x ≠ .norm) (hi : x ≠ .exit id) (h : RunsTo P N D c s x s1) : RunsTo P N D (.block id c) s x s1 := fun W a w n Q hs hQ =>
  wpIn_block (h W a w n _ hs fun a' w' hs' => by
    cases x with
    | norm => exact absurd rfl hx
    | exit i => simp only [exOf, Exit.inBlock, if_neg (fun e : i = id => hi (by rw [e]))]; exact hQ a' w' hs'
    | goto l => exact hQ a' w' hs'
    | ret => exact hQ a' w' hs')

theorem RunsTo.loop {c : Code} {s s1 : Snap} {x : Ex} (k : Nat) (h : RunsL P N D c k s x s1) : RunsTo P N D (.loop c) s x s1 := fun W a w n Q hs hQ =>
  wpIn_loop_rounds k (h W a w n Q hs hQ)

theorem RunsL.next {c : Code} {k : Nat} {s s1 s2 : Snap} {x : Ex} (h1 : RunsTo P N D c s .norm s1) (h2 : RunsL P N D c k s1 x s2) : RunsL P N D c (k + 1) s x s2 := fun W a w n Q hs hQ => by
  rw [roundsIn_succ]
  exact h1 W a w n _ hs fun a' w' hs' => h2 W a' w' n Q hs' hQ

theorem RunsL.stop {c : Code} {k : Nat} {s s1 : Snap} {x : Ex} (hx : x ≠ .norm) (h : RunsTo P N D c s x s1) : RunsL P N D c (k + 1) s x s1 := fun W a w n Q hs hQ => by
  rw [roundsIn_succ]
  exact h W a w n _ hs fun a' w' hs' => then_other hx (hQ a' w' hs')


/-! ### By the code's shape -/

def cA : Code → Code
  | .seq a _ => a
  | .cond _ a _ => a
  | .block _ b => b
  | .loop b => b
  | .scope b => b
  | c => c

def cB : Code → Code
  | .seq _ b => b
  | .cond _ _ b => b
  | c => c

def isSeq : Code → Bool
  | .seq _ _ => true
  | _ => false

def isLoop : Code → Bool
  | .loop _ => true
  | _ => false

def isScope : Code → Bool
  | .scope _ => true
  | _ => false

/-- A block, left so. -/
def isBlock (x : Ex) (y : Ex) : Code → Bool
  | .block id _ => (match x with
    | .norm => exEq y .norm
    | .exit i => iff (Nat.beq i id) (exEq y .norm) (exEq y (.exit i))
    | x => exEq y x)
  | _ => false

/-- A condition, and what it is. -/
def isCond (D : Nat) (s : Snap) (t : Bool) : Code → Bool
  | .cond (.tmp i) _ _ => Nat.ble (Nat.succ i) (capN D) && avEq (s.es.getD i .top) (.c (.bool t))
  | .cond (.const v) _ _ => avEq (ofV v) (.c (.bool t))
  | _ => false

theorem RunsTo.seq' {c : Code} {s s1 s2 : Snap} {x : Ex} (hc : isSeq c = true) (h1 : RunsTo P N D (cA c) s .norm s1) (h2 : RunsTo P N D (cB c) s1 x s2) : RunsTo P N D c s x s2 := by
  cases c <;> first | exact h1.seq h2 | cases hc

theorem RunsTo.seqOut' {c : Code} {s s1 : Snap} {x : Ex} (hc : isSeq c = true) (hx : exEq x .norm = false) (h1 : RunsTo P N D (cA c) s x s1) : RunsTo P N D c s x s1 := by
  have hx : x ≠ .norm := fun e => by rw [e] at hx; cases hx
  cases c <;> first | exact h1.seqOut hx | cases hc

theorem RunsTo.then' {c : Code} {s s1 : Snap} {x : Ex} (hc : isCond D s true c = true) (h : RunsTo P N D (cA c) s x s1) : RunsTo P N D c s x s1 := by
  cases c with
  | cond o a b =>
    refine RunsTo.cond true (fun e m hd => ?_) h
    cases o with
    | tmp i =>
      simp only [isCond, Bool.and_eq_true, ble_iff] at hc
      rw [hd.tmp hc.1]; exact avEq_ok hc.2
    | const v => exact avEq_ok hc
    | _ => cases hc
  | _ => cases hc

theorem RunsTo.else' {c : Code} {s s1 : Snap} {x : Ex} (hc : isCond D s false c = true) (h : RunsTo P N D (cB c) s x s1) : RunsTo P N D c s x s1 := by
  cases c with
  | cond o a b =>
    refine RunsTo.cond false (fun e m hd => ?_) h
    cases o with
    | tmp i =>
      simp only [isCond, Bool.and_eq_true, ble_iff] at hc
      rw [hd.tmp hc.1]; exact avEq_ok hc.2
    | const v => exact avEq_ok hc
    | _ => cases hc
  | _ => cases hc

theorem RunsTo.block' {c : Code} {s s1 : Snap} {x y : Ex} (hc : isBlock x y c = true) (h : RunsTo P N D (cA c) s x s1) : RunsTo P N D c s y s1 := by
  cases c with
  | block id b =>
    cases x with
    | norm =>
      have := exEq_ok (show exEq y .norm = true from hc)
      subst this
      exact RunsTo.block (.inl h)
    | exit i =>
      have hc : iff (Nat.beq i id) (exEq y .norm) (exEq y (.exit i)) = true := hc
      rw [iff_eq] at hc
      split at hc
      · rename_i hi
        rw [beq_ok hi] at h
        rw [exEq_ok hc]
        exact RunsTo.block (.inr h)
      · rename_i hi
        rw [exEq_ok hc]
        exact RunsTo.blockOut (by simp) (fun e => by cases e; exact hi (Nat.beq_refl _)) h
    | goto l =>
      rw [exEq_ok (show exEq y (.goto l) = true from hc)]
      exact RunsTo.blockOut (by simp) (by simp) h
    | ret =>
      rw [exEq_ok (show exEq y .ret = true from hc)]
      exact RunsTo.blockOut (by simp) (by simp) h
  | _ => cases hc

theorem RunsTo.loop' {c : Code} {s s1 : Snap} {x : Ex} (k : Nat) (hc : isLoop c = true) (h : RunsL P N D (cA c) k s x s1) : RunsTo P N D c s x s1 := by
  cases c <;> first | exact RunsTo.loop k h | cases hc

theorem RunsL.stop' {c : Code} {s s1 : Snap} {x : Ex} (hx : exEq x .norm = false) (h : RunsTo P N D c s x s1) : RunsL P N D c 1 s x s1 :=
  RunsL.stop (k := 0) (fun e => by rw [e] at hx; cases hx) h

def notGoto : Ex → Bool
  | .goto _ => false
  | _ => true

theorem RunsTo.scope' {c : Code} {s s1 : Snap} {x : Ex} (hc : isScope c = true) (hx : notGoto x = true) (h : RunsTo P N D (cA c) s x s1) : RunsTo P N D c s x s1 := by
  cases c with
  | scope b =>
    intro W a w n Q hs hQ
    refine wpIn_scope 1 ?_
    show b.wpIn Fence.wide n P _ a w
    refine h W a w n _ hs fun a' w' hs' => ?_
    have := hQ a' w' hs'
    cases x with
    | goto l => cases hx
    | _ => exact this
  | _ => cases hc

end

/-- Some temporaries turned. -/
def setE (l : List AV) : List (Nat × AV) → List AV
  | [] => l
  | x :: r => setE (l.set x.1 x.2) r

def among (n : Nat) : List Nat → Bool
  | [] => false
  | x :: r => iff (Nat.beq n x) true (among n r)

/-- Some objects left out. -/
def dropL (ids : List Nat) : List (Nat × Ob) → List (Nat × Ob)
  | [] => []
  | x :: r => iff (among x.1 ids) (dropL ids r) (x :: dropL ids r)

/-- A tree of pieces. -/
def lt (d : Nat) (l : List TV) : NT d TV := bld topT d l fun t _ => t

/-! ### A call without arguments, in segments -/

/-- What the function tells in the end is true. -/
def endB (P : Program) (D : Nat) (fn : Func) (cx : Ctx) (s : Snap) : Bool :=
  iff (idsOk s.L s.nx) (bld AV.top D s.es fun e _ => bldH s.L (fullN Ob.dead hd) fun H => isTrue (shutDfs P s.dfs (fun m => (resD P fn.results.toList).f cx e m) ⟨H, s.nx, inf, inf, s.dfs⟩)) false

/-- What is told when the call begins. -/
structure Start (P : Program) (laid : List (String × DataW Unit)) (s : Snap) : Prop where
  env : (s.es.all fun v => avEq v undefA) = true
  L : s.L.map (·.2) = s.L.map fun x => obOf P laid x.1
  lt : (s.L.all fun x => Nat.ble (Nat.succ x.1) (glb P)) = true
  nx : s.nx = glb P
  dfs : s.dfs = []

theorem map_mem {α β : Type} {f g : α → β} : ∀ {l : List α}, l.map f = l.map g → ∀ x ∈ l, f x = g x
  | [], _, x, hx => by cases hx
  | y :: r, h, x, hx => by
    simp only [List.map_cons, List.cons.injEq] at h
    rcases List.mem_cons.1 hx with rfl | hx
    · exact h.1
    · exact map_mem h.2 x hx

theorem call_cut {P : Program} {laid : List (String × DataW Unit)} {W : World} (hS : W.ShapedOpen P) (hL : laidMet P laid W) (hcap : Nat.ble (glb P) (capN hd) = true) (hlast : glb P = 0 ∨ (tyAt P (glb P - 1)).isSome = true) {lf n f D : Nat} {fn : Func} {b : Code}
    (hfn : P.funcs[f]? = some fn) (hb : fn.body = some b) (hD : Nat.ble fn.ntmps (capN D) = true) {s0 s1 : Snap} {x : Ex} (hx : x = .norm ∨ x = .ret) (h0 : Start P laid s0) (hrun : RunsTo P fn.ntmps D b s0 x s1) (hend : endB P D fn ⟨lowN P lf n, lf, none⟩ s1 = true) :
    Calls P f #[] W fun e W' => e = .returned (.bool true) ∧ Below W.heap.size W W' := by
  have hcap := ble_iff.1 hcap
  have hD := ble_iff.1 hD
  have hsz : glb P ≤ W.heap.size := by
    rcases hlast with h0 | h0
    · omega
    · rcases Nat.eq_zero_or_pos (glb P) with h1 | h1
      · omega
      · unfold tyAt at h0
        cases hr : ((begin P (fun _ _ => 0) default).world.heap[glb P - 1]?).bind Obj.row? with
        | none => rw [hr] at h0; cases h0
        | some q =>
          obtain ⟨zero, el⟩ := q
          obtain ⟨cs', hcs, _, _⟩ := hS.1 (glb P - 1) zero el (show glb P - 1 < P.globals.size by unfold glb at *; omega) hr
          have := (Array.getElem?_eq_some_iff.1 hcs).1
          omega
  have hρ : ∀ id s, ρG P id = some s → id < glb P ∧ s = ⟨id, 0, 0⟩ := fun id s hs => by
    unfold ρG at hs
    split at hs
    · cases hs; exact ⟨by assumption, rfl⟩
    · cases hs
  have hlt : ∀ y ∈ s0.L, y.1 < glb P := fun y hy => ble_iff.1 (List.all_eq_true.1 h0.lt y hy)
  have hids : ∀ (l : List (Nat × Ob)), (∀ y ∈ l, y.1 < glb P) → idsOk l (glb P) = true := fun l => by
    induction l with
    | nil => intro _; rfl
    | cons y r ih =>
      intro h
      simp only [idsOk, Bool.and_eq_true, ble_iff]
      exact ⟨h y (by simp), ih fun z hz => h z (by simp [hz])⟩
  obtain ⟨t, _, k2⟩ := bld_ok AV.top D s0.es (fun e _ => e)
  obtain ⟨H, _, k4⟩ := bldH_ok hcap s0.L (fullN Ob.dead CE.hd) (fun H => H) (hids s0.L hlt)
  have hdead : ∀ id, id < capN hd → obj H id = lk id s0.L .dead := fun id hid => by
    rw [k4 id hid]
    have : obj (fullN Ob.dead CE.hd) id = .dead := get_full Ob.dead CE.hd id hid
    rw [this]
  have hobs : ∀ id, id < capN hd → obj H id = .dead ∨ (id < glb P ∧ obj H id = obOf P laid id) := fun id hid => by
    rw [hdead id hid]
    rcases lk_cases id s0.L .dead with h | ⟨y, hy, h7, h8⟩
    · exact .inl h
    · refine .inr ⟨by rw [← h7]; exact hlt y hy, ?_⟩
      rw [h8, map_mem h0.L y hy, h7]
  have hst : StS P fn.ntmps D W s0 { tmps := #[] ++ Array.replicate (fn.ntmps - (#[] : Array Value).size) undef, defers := [] } W := by
    refine ⟨t, ⟨H, s0.nx, inf, inf, s0.dfs⟩, ⟨k2, hdead, rfl, rfl⟩, ρG P, ⟨?_, ?_, fun id hid hc => ?_⟩, ⟨hsz, Nat.le_refl _, fun id s hs => ?_, fun id s hs => ?_, fun g hg => if_pos hg, fun id s hs hg => ?_, fun id id' s s' _ _ hg hg' hs => ?_, fun id s hs _ => ?_⟩, ⟨by simp, hD, fun i hi => ?_⟩, fun id hid => ?_, ?_, Below.refl _ _⟩
    · show glb P ≤ s0.nx; rw [h0.nx]; exact Nat.le_refl _
    · show s0.nx ≤ capN hd; rw [h0.nx]; exact hcap
    · have hid : s0.nx ≤ id := hid
      rw [h0.nx] at hid
      rcases hobs id hc with h | h
      · exact h
      · omega
    · have := hρ id s hs; omega
    · obtain ⟨a, rfl⟩ := hρ id s hs
      show id < W.heap.size
      omega
    · have := hρ id s hs; omega
    · have := hρ id s hs; omega
    · obtain ⟨a, rfl⟩ := hρ id s hs
      show OR _ _ (obj H id) _
      rcases hobs id (by omega) with h | ⟨_, h⟩
      · rw [h]; trivial
      · rw [h]; exact obOf_ok hS hL a _
    · rw [k2 i hi]
      have hv : ((#[] ++ Array.replicate (fn.ntmps - (#[] : Array Value).size) undef : Array Value)).getD i undef = undef := by
        simp only [Array.empty_append, Array.getD_eq_getD_getElem?, Array.getElem?_replicate]
        split <;> rfl
      show AR _ _ (((#[] ++ Array.replicate (fn.ntmps - (#[] : Array Value).size) undef : Array Value)).getD i undef)
      rw [hv]
      rw [List.getD_eq_getElem?_getD]
      cases hi2 : s0.es[i]? with
      | none => trivial
      | some v =>
        have := List.all_eq_true.1 h0.env v (List.mem_of_getElem? hi2)
        rw [show (some v).getD AV.top = v from rfl, avEq_ok this]
        exact AR.undef _
    · have hid : s0.nx ≤ id := hid
      rw [h0.nx] at hid
      exact if_neg (by omega)
    · show DR _ s0.dfs _
      rw [h0.dfs]; exact trivial
  refine (callsIn_wide (n := 0)).1 (callsIn_of_wp_marks hfn hb trivial ?_)
  have hlow := lowN_ok (den_ok P) lf n
  have leaves : ∀ a1 w1, StS P fn.ntmps D W s1 a1 w1 → LeavesInM Fence.wide 0 P fn a1.tmps (fun e W' => e = .returned (.bool true) ∧ Below W.heap.size W W') a1.defers .returning w1 := by
    intro a1 w1 ⟨e, m, hds, hs⟩
    unfold endB at hend
    rw [iff_eq] at hend
    split at hend
    · rename_i hi
      obtain ⟨t', q1, q2⟩ := bld_ok AV.top D s1.es (fun e _ => bldH s1.L (fullN Ob.dead hd) fun H => isTrue (shutDfs P s1.dfs (fun m => (resD P fn.results.toList).f ⟨lowN P lf n, lf, none⟩ e m) ⟨H, s1.nx, inf, inf, s1.dfs⟩))
      rw [q1] at hend
      have hc1 : s1.nx ≤ capN hd := by
        obtain ⟨_, hw, _⟩ := hs
        rw [← hds.nx]; exact hw.cap
      obtain ⟨H', q3, q4⟩ := bldH_ok hc1 s1.L (fullN Ob.dead CE.hd) (fun H => isTrue (shutDfs P s1.dfs (fun m => (resD P fn.results.toList).f ⟨lowN P lf n, lf, none⟩ t' m) ⟨H, s1.nx, inf, inf, s1.dfs⟩)) hi
      rw [q3] at hend
      obtain ⟨m', hk⟩ := isTrue_ok hend
      have hs' : St P fn.ntmps W t' (⟨H', s1.nx, inf, inf, s1.dfs⟩ : M) a1 w1 := hs.weak (fun i hi => .inr (by rw [q2 i hi, hds.env i hi])) (fun id hid => .inr (by
        show obj H' id = _
        rw [q4 id hid, hds.mem id hid]
        have : obj (fullN Ob.dead CE.hd) id = .dead := get_full Ob.dead CE.hd id hid
        rw [this])) hds.nx.symm hds.dfs.symm
      obtain ⟨ρ, hw, hr, hen, hf, hdr, hbel⟩ := hs'
      refine shut_ok (P := P) (B0 := W.heap.size) (A := fun _ => True) (fun m1 v m' hk => resD_mono hk) s1.dfs ⟨H', s1.nx, inf, inf, s1.dfs⟩ ρ w1 a1.defers hk hw (fun _ _ => trivial) hr (fun id h1 _ => hf id h1) hdr fun m2 w2 hp2 hm2 hm2' hk2 => ?_
      obtain ⟨rm, hrm, rfl, hgo⟩ := resD_ok (N := fn.ntmps) hk2
      obtain ⟨y, hy, hay⟩ := hgo W.heap.size (fun _ => True) ρ a1 w2 hp2.rel hen (fun _ _ => trivial)
      have hyt : y = .bool true := hay
      refine ⟨y, hy, by rw [hyt], hbel.trans ⟨hp2.os, hp2.tape, hp2.out, hp2.size, fun b hb' => hp2.frame b (Nat.lt_of_lt_of_le hb' hr.b0) fun id s hs hg _ _ => ?_⟩⟩
      have := hr.own id s hs hg
      omega
    · cases hend
  exact hrun W _ W 0 _ hst fun a' w' hs' => by
    rcases hx with rfl | rfl
    · exact leaves a' w' hs'
    · exact leaves a' w' hs'

end Go.CE
