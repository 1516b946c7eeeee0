/- What single calls do, told by plain data, and used where they are met again: no call need be worked out where it stands. No program is named. -/
import Derived.Test.YtgffldphnbeddaaGreatDoorCeCA
noncomputable section
namespace Go.CE
open Go Go.RowKit

/-- A call: of what, in which memory (what it looks at and turns); what it tells, and what is turned and new behind it; how far down it looks, and turns. -/
structure Sum where
  f : Nat
  args : List AV
  nx : Nat
  pre : List (Nat × Ob)
  v : AV
  nx' : Nat
  post : List (Nat × Ob)
  rm : Nat
  wm : Nat

def isDead : Ob → Bool
  | .dead => true
  | _ => false

theorem isDead_ok {a : Ob} (h : isDead a = true) : a = .dead := by
  cases a <;> first | rfl | cases h

def obEq2 (a b : Ob) : Bool := obEq a b || (isDead a && isDead b)

theorem obEq2_ok {a b : Ob} (h : obEq2 a b = true) : a = b := by
  unfold obEq2 at h
  rw [Bool.or_eq_true, Bool.and_eq_true] at h
  rcases h with h | ⟨h, h'⟩
  · exact obEq_ok h
  · rw [isDead_ok h, isDead_ok h']

def memLe2 (H : NT hd Ob) : List (Nat × Ob) → Bool
  | [] => true
  | x :: r => obEq2 x.2 ((getN hd x.1).f H) && memLe2 H r

theorem memLe2_ok {H : NT hd Ob} : ∀ {l : List (Nat × Ob)}, memLe2 H l = true → ∀ x ∈ l, x.2 = obj H x.1
  | [], _, x, hx => by cases hx
  | y :: r, h, x, hx => by
    simp only [memLe2, Bool.and_eq_true] at h
    rcases List.mem_cons.1 hx with rfl | hx
    · exact obEq2_ok h.1
    · exact memLe2_ok h.2 x hx

def idIn (id : Nat) : List (Nat × Ob) → Bool
  | [] => false
  | x :: r => iff (Nat.beq id x.1) true (idIn id r)

theorem idIn_ok {id : Nat} : ∀ {l : List (Nat × Ob)}, idIn id l = true → ∃ x ∈ l, x.1 = id
  | [], h => by cases h
  | y :: r, h => by
    unfold idIn at h
    rw [iff_eq] at h
    split at h
    · rename_i hb; exact ⟨y, by simp, (beq_ok hb).symm⟩
    · obtain ⟨x, hx, e⟩ := idIn_ok h
      exact ⟨x, by simp [hx], e⟩

/-- What is not told anew is as it was. -/
def preKept (H : NT hd Ob) (post : List (Nat × Ob)) : List (Nat × Ob) → Bool
  | [] => true
  | x :: r => (idIn x.1 post || obEq2 x.2 ((getN hd x.1).f H)) && preKept H post r

theorem preKept_ok {H : NT hd Ob} {post : List (Nat × Ob)} : ∀ {l : List (Nat × Ob)}, preKept H post l = true → ∀ x ∈ l, (∃ y ∈ post, y.1 = x.1) ∨ x.2 = obj H x.1
  | [], _, x, hx => by cases hx
  | y :: r, h, x, hx => by
    simp only [preKept, Bool.and_eq_true, Bool.or_eq_true] at h
    rcases List.mem_cons.1 hx with rfl | hx
    · exact h.1.imp idIn_ok obEq2_ok
    · exact preKept_ok h.2 x hx

def postOk (glb nx nx' wm : Nat) (pre : List (Nat × Ob)) : List (Nat × Ob) → Bool
  | [] => true
  | x :: r => Nat.ble (Nat.succ x.1) nx' && (Nat.ble nx x.1 || (idIn x.1 pre && Nat.ble wm x.1 && Nat.ble glb x.1)) && postOk glb nx nx' wm pre r

theorem postOk_ok {glb nx nx' wm : Nat} {pre : List (Nat × Ob)} : ∀ {l : List (Nat × Ob)}, postOk glb nx nx' wm pre l = true → ∀ x ∈ l, x.1 < nx' ∧ (nx ≤ x.1 ∨ ((∃ y ∈ pre, y.1 = x.1) ∧ wm ≤ x.1 ∧ glb ≤ x.1))
  | [], _, x, hx => by cases hx
  | y :: r, h, x, hx => by
    simp only [postOk, Bool.and_eq_true, Bool.or_eq_true, ble_iff] at h
    rcases List.mem_cons.1 hx with rfl | hx
    · exact ⟨h.1.1, h.1.2.imp (fun q => q) fun q => ⟨idIn_ok q.1.1, q.1.2, q.2⟩⟩
    · exact postOk_ok h.2 x hx

def Sum.fine (P : Program) (s : Sum) : Bool :=
  idsOk s.pre s.nx && Nat.ble (glb P) s.nx && Nat.ble s.nx s.nx' && Nat.ble s.nx' (capN hd) && postOk (glb P) s.nx s.nx' s.wm s.pre s.post && Nat.ble s.rm s.wm

structure Fine (P : Program) (s : Sum) : Prop where
  ids : idsOk s.pre s.nx = true
  glb : CE.glb P ≤ s.nx
  nx : s.nx ≤ s.nx'
  cap : s.nx' ≤ capN hd
  post : ∀ x ∈ s.post, x.1 < s.nx' ∧ (s.nx ≤ x.1 ∨ ((∃ y ∈ s.pre, y.1 = x.1) ∧ s.wm ≤ x.1 ∧ CE.glb P ≤ x.1))
  rw' : s.rm ≤ s.wm

theorem Sum.fine_ok {P : Program} {s : Sum} (h : s.fine P = true) : Fine P s := by
  simp only [Sum.fine, Bool.and_eq_true, ble_iff] at h
  obtain ⟨⟨⟨⟨⟨h1, h2⟩, h3⟩, h4⟩, h5⟩, h6⟩ := h
  exact ⟨h1, h2, h3, h4, postOk_ok h5, h6⟩

def sumEnd (s : Sum) : RO → Bool
  | .ok v m => avEq s.v v && Nat.beq m.nx s.nx' && memLe2 m.H s.post && preKept m.H s.post s.pre && Nat.ble s.rm m.rm && Nat.ble s.wm m.wm
  | .fail _ => false

/-- Does the call do that? -/
def sumB (P : Program) (low : Low) (s : Sum) : Bool :=
  iff (s.fine P) (bldH s.pre (fullN Ob.dead hd) fun H => sumEnd s (low.call s.f s.args ⟨H, s.nx, inf, inf, []⟩)) false

/-! ### Used -/

def matchS (s : Sum) (args : List AV) (H : NT hd Ob) (nx : Nat) : Bool := Nat.beq nx s.nx && allEq avEq s.args args && memLe H s.pre

def applyS (s : Sum) (H : NT hd Ob) (rm wm : Nat) (dfs : List Nat) : RO :=
  bldH s.post H fun H => minK rm s.rm fun rm => minK wm s.wm fun wm => .ok s.v ⟨H, s.nx', rm, wm, dfs⟩

def tryM (f : Nat) (args : List AV) (H : NT hd Ob) (nx rm wm : Nat) (dfs : List Nat) (k : RO) : List Sum → RO
  | [] => k
  | s :: r => iff (Nat.beq f s.f) (iff (matchS s args H nx) (applyS s H rm wm dfs) (tryM f args H nx rm wm dfs k r)) (tryM f args H nx rm wm dfs k r)

def tryS (tbl : List Sum) (f : Nat) (args : List AV) (m : M) (k : RO) : RO :=
  M.rec (motive := fun _ => RO) (fun H nx rm wm dfs => tryM f args H nx rm wm dfs k tbl) m

/-- Calls, with those that are told already. -/
def lowT (P : Program) (tbl : List Sum) (lf : Nat) (n : Nat) : Low :=
  Nat.rec (motive := fun _ => Low) ⟨fun _ _ _ => .fail [218], fun _ _ _ => .fail [219]⟩
    (fun _ ih => ⟨fun f args m => tryS tbl f args m (tagF f ((fnD P lf f).f ih args m)), fun id args m => look P id m (roundOb P lf ih id args)⟩) n

/-- A call does as it is told. -/
def SumOK (P : Program) (s : Sum) : Prop :=
  Fine P s ∧ ∀ (m : M) (H' : NT hd Ob), m.nx = s.nx → m.dfs = [] → (∀ x ∈ s.pre, obj m.H x.1 = x.2) → (∀ id, id < capN hd → obj H' id = lk id s.post (obj m.H id)) →
    ∀ (B0 : Nat) (A : Nat → Prop) (ρ : Rho) (w : World) (vals : List Value), WF P m → (∀ id, (s.rm ≤ id ∨ s.nx ≤ id) → A id) → Rel P B0 A ρ m.H w → (∀ id, s.nx ≤ id → id < s.nx' → ρ id = none) → All2 (AR ρ) s.args vals →
      ∀ (rm wm : Nat) (dfs : List Nat), wm ≤ s.wm → ∀ n, CallsIn Fence.wide n P s.f vals.toArray w (ranR P B0 A ρ m w s.v ⟨H', s.nx', rm, wm, dfs⟩)

theorem lk_none {id : Nat} : ∀ (l : List (Nat × Ob)) (ob : Ob), (∀ x ∈ l, x.1 ≠ id) → lk id l ob = ob
  | [], _, _ => rfl
  | x :: r, ob, h => by
    unfold lk
    rw [if_neg (fun e => h x (by simp) e.symm)]
    exact lk_none r ob fun y hy => h y (by simp [hy])

theorem lk_some {id : Nat} {v : Ob} : ∀ (l : List (Nat × Ob)) (ob : Ob), (∀ x ∈ l, x.1 = id → x.2 = v) → (∃ x ∈ l, x.1 = id) → lk id l ob = v
  | [], _, _, h => by obtain ⟨x, hx, _⟩ := h; cases hx
  | x :: r, ob, h, he => by
    unfold lk
    by_cases hr : ∃ y ∈ r, y.1 = id
    · exact lk_some r _ (fun y hy => h y (by simp [hy])) hr
    · rw [lk_none r _ fun y hy e => hr ⟨y, hy, e⟩]
      obtain ⟨y, hy, e⟩ := he
      rcases List.mem_cons.1 hy with rfl | hy
      · rw [if_pos e.symm]; exact h y (by simp) e
      · exact absurd ⟨y, hy, e⟩ hr

/-- What holds of less memory holds of more: what is not looked at stays. -/
theorem Ran.more {P : Program} {B0 : Nat} {A : Nat → Prop} {ρ ρ' : Rho} {m m0 m0' : M} {w w' : World} {v : AV} {x : Value} {s : Sum} (hF : Fine P s) (hnx : m.nx = s.nx) (hpre : ∀ x ∈ s.pre, obj m.H x.1 = x.2) {H' : NT hd Ob} (hH' : ∀ id, id < capN hd → obj H' id = lk id s.post (obj m.H id))
    (h0 : ∀ id, id < capN hd → obj m0.H id = lk id s.pre .dead) (hnx0 : m0.nx = s.nx) (hnx' : m0'.nx = s.nx') (hwm : s.wm ≤ m0'.wm) (hpost : ∀ y ∈ s.post, y.2 = obj m0'.H y.1) (hkept : ∀ y ∈ s.pre, (∃ z ∈ s.post, z.1 = y.1) ∨ y.2 = obj m0'.H y.1)
    (hw : WF P m) (hr : Rel P B0 A ρ m.H w) (hA : ∀ id, (s.rm ≤ id ∨ s.nx ≤ id) → A id) (hfresh : ∀ id, s.nx ≤ id → id < s.nx' → ρ id = none) (h : Ran P B0 A ρ m0 w v m0' x w' ρ') {rm wm : Nat} {dfs : List Nat} (hle : wm ≤ s.wm) : Ran P B0 A ρ m w v ⟨H', s.nx', rm, wm, dfs⟩ x w' ρ' := by
  obtain ⟨hv, hp⟩ := h
  have hrw := hF.rw'
  -- of m0: what is told, or nothing
  have in0 : ∀ id, id < capN hd → obj m0.H id = obj m.H id ∨ (obj m0.H id = .dead ∧ ∀ y ∈ s.pre, y.1 ≠ id) := fun id hid => by
    by_cases hex : ∃ y ∈ s.pre, y.1 = id
    · left
      rw [h0 id hid]
      exact lk_some _ _ (fun y hy e => by rw [← hpre y hy, e]) hex
    · right
      have hno : ∀ y ∈ s.pre, y.1 ≠ id := fun y hy e => hex ⟨y, hy, e⟩
      exact ⟨by rw [h0 id hid, lk_none _ _ hno], hno⟩
  have live0 : ∀ id, id < capN hd → Live m0.H id → obj m0.H id = obj m.H id := fun id hid hl => (in0 id hid).resolve_right fun hd => hl hd.1
  have live1 : ∀ id, id < capN hd → Live m0.H id → Live m.H id := fun id hid hl hh => hl (by rw [live0 id hid hl]; exact hh)
  -- of m': what m0' has, or what m had
  have out : ∀ id, id < capN hd → (obj H' id = obj m0'.H id) ∨ (obj H' id = obj m.H id ∧ id < s.nx ∧ obj m0.H id = .dead) ∨ (obj H' id = .dead ∧ s.nx ≤ id) := fun id hid => by
    rw [hH' id hid]
    by_cases hex : ∃ y ∈ s.post, y.1 = id
    · left
      exact lk_some _ _ (fun y hy e => by rw [hpost y hy, e]) hex
    · have hno : ∀ y ∈ s.post, y.1 ≠ id := fun y hy e => hex ⟨y, hy, e⟩
      rw [lk_none _ _ hno]
      rcases Nat.lt_or_ge id s.nx with hlt | hge
      · by_cases hpr : ∃ y ∈ s.pre, y.1 = id
        · obtain ⟨y, hy, e⟩ := hpr
          left
          rcases hkept y hy with ⟨z, hz, e'⟩ | h'
          · exact absurd (e'.trans e) (hno z hz)
          · rw [← e, hpre y hy, h']
        · right; left
          refine ⟨rfl, hlt, ?_⟩
          rw [h0 id hid, lk_none _ _ fun y hy e => hpr ⟨y, hy, e⟩]
      · right; right
        exact ⟨hw.dead id (by rw [hnx]; exact hge) hid, hge⟩
  have hdd : ∀ id, id < s.nx → obj m0.H id = .dead → obj m0'.H id = .dead := fun id hid => hp.dead id (by rw [hnx0]; exact hid)
  have hcap : ∀ id, id < s.nx → id < capN hd := fun id h => Nat.lt_of_lt_of_le h (Nat.le_trans hF.nx hF.cap)
  have dom' : ∀ id t, ρ' id = some t → id < s.nx → ρ id = some t := fun id t ht hlt => by
    rcases hp.dom id t ht with h | h
    · exact h
    · rw [hnx0] at h; omega
  -- one that stays as it was, beside one that m0' has
  have cross : ∀ i j ti tj, A i → A j → glb P ≤ i → glb P ≤ j → ρ' i = some ti → ρ' j = some tj → i < s.nx → obj m0.H i = .dead → Live m.H i → Live m0'.H j → ti.blk = tj.blk → False := fun i j ti tj ai aj gi gj hi hj hlt hdi hli hlj e => by
    have hi0 := dom' i ti hi hlt
    cases hj0 : ρ j with
    | some sj =>
      have hjs := hp.ext j sj hj0
      rw [hjs] at hj
      obtain rfl : sj = tj := Option.some.inj hj
      have hc := hr.cap j sj hj0
      have hjlt : j < s.nx := by
        rcases Nat.lt_or_ge j s.nx with h | h
        · exact h
        · exfalso
          rcases Nat.lt_or_ge j s.nx' with h2 | h2
          · rw [hfresh j h h2] at hj0; cases hj0
          · exact hlj (hp.wf.dead j (by rw [hnx']; exact h2) hc)
      have hlj0 : Live m0.H j := fun hd => hlj (hdd j hjlt hd)
      have := hr.inj i j ti sj ai aj gi gj hi0 hj0 hli (live1 j hc hlj0) e
      subst this
      exact hlj0 hdi
    | none =>
      rcases hp.newb j tj hj hj0 with h | ⟨k, sk, hk, gk, wk, lk', ek⟩
      · have := hr.lt i ti hi0; omega
      · have hc := hr.cap k sk hk
        have wk : m0'.wm ≤ k := wk
        have := hr.inj i k ti sk ai (hA k (.inl (by omega))) gi gk hi0 hk hli (live1 k hc lk') (e.trans ek.symm)
        subst this
        exact lk' hdi
  refine ⟨hv, ⟨hp.ext, fun id t ht => ?_, ?_, ⟨?_, hF.cap, fun id hid hc => ?_⟩, ⟨hr.gb, hp.rel.b0, hp.rel.cap, hp.rel.lt, hp.rel.glob, hp.rel.own, ?_, ?_⟩, hp.size, fun b hb hn => ?_, fun id t ht hn => ?_, fun id hid hn => ?_, fun id hid hd => ?_, fun id hid hc => ?_, hp.tape, hp.os, hp.out⟩⟩
  · rw [hnx, ← hnx0]
    have := hp.dom id t ht
    rw [hnx'] at this; exact this
  · rw [hnx]; exact hF.nx
  · show glb P ≤ s.nx'
    exact Nat.le_trans hF.glb hF.nx
  · have hid : s.nx' ≤ id := hid
    show obj H' id = .dead
    rw [hH' id hc, lk_none _ _ fun y hy e => by have := (hF.post y hy).1; omega]
    exact hw.dead id (by rw [hnx]; have := hF.nx; omega) hc
  · intro i j ti tj ai aj gi gj hi hj hli hlj e
    have hli : obj H' i ≠ .dead := hli
    have hlj : obj H' j ≠ .dead := hlj
    have ci := hp.rel.cap i ti hi
    have cj := hp.rel.cap j tj hj
    rcases out i ci with h1 | ⟨h1, l1, d1⟩ | ⟨h1, _⟩
    · rcases out j cj with h2 | ⟨h2, l2, d2⟩ | ⟨h2, _⟩
      · exact hp.rel.inj i j ti tj ai aj gi gj hi hj (fun hh => hli (h1.trans hh)) (fun hh => hlj (h2.trans hh)) e
      · exact (cross j i tj ti aj ai gj gi hj hi l2 d2 (fun hh => hlj (h2.trans hh)) (fun hh => hli (h1.trans hh)) e.symm).elim
      · exact absurd h2 hlj
    · rcases out j cj with h2 | ⟨h2, l2, d2⟩ | ⟨h2, _⟩
      · exact (cross i j ti tj ai aj gi gj hi hj l1 d1 (fun hh => hli (h1.trans hh)) (fun hh => hlj (h2.trans hh)) e).elim
      · exact hr.inj i j ti tj ai aj gi gj (dom' i ti hi l1) (dom' j tj hj l2) (fun hh => hli (h1.trans hh)) (fun hh => hlj (h2.trans hh)) e
      · exact absurd h2 hlj
    · exact absurd h1 hli
  · intro i t hi hAi
    have ci := hp.rel.cap i t hi
    show OR ρ' t (obj H' i) w'.heap[t.blk]?
    rcases out i ci with h1 | ⟨h1, l1, d1⟩ | ⟨h1, _⟩
    · rw [h1]; exact hp.rel.rows i t hi hAi
    · have hi0 := dom' i t hi l1
      rw [h1]
      by_cases hli : obj m.H i = .dead
      · rw [hli]; trivial
      · have hor := OR.mono hp.ext (hr.rows i t hi0 hAi)
        have hf : w'.heap[t.blk]? = w.heap[t.blk]? := hp.frame t.blk (hr.lt i t hi0) fun k sk hk gk wk lk' e => by
          have wk : m0'.wm ≤ k := wk
          have hc := hr.cap k sk hk
          rcases Nat.lt_or_ge i (glb P) with hg | hg
          · have := hr.glob i hg
            rw [hi0] at this; cases this
            have h1 := hr.own k sk hk gk
            have h2 := hr.gb
            have e : sk.blk = i := e
            omega
          · have := hr.inj i k t sk (hAi.resolve_right (by omega)) (hA k (.inl (by omega))) hg gk hi0 hk hli (live1 k hc lk') e.symm
            subst this
            exact lk' d1
        rw [hf]; exact hor
    · rw [h1]; trivial
  · refine hp.frame b hb fun id t ht g wi li => hn id t ht g ?_ (live1 id (hr.cap id t ht) li)
    have wi : m0'.wm ≤ id := wi
    show wm ≤ id
    omega
  · rcases hp.newb id t ht hn with h | ⟨k, sk, hk, gk, wk, lk', ek⟩
    · exact .inl h
    · refine .inr ⟨k, sk, hk, gk, ?_, live1 k (hr.cap k sk hk) lk', ek⟩
      have wk : m0'.wm ≤ k := wk
      show wm ≤ k
      omega
  · rw [hnx] at hid
    have hn : ¬ wm ≤ id := hn
    show obj H' id = obj m.H id
    rw [hH' id (hcap id hid), lk_none _ _ fun y hy e => by
      have := (hF.post y hy).2
      rcases this with h | ⟨_, h, _⟩ <;> omega]
  · rw [hnx] at hid
    show obj H' id = .dead
    rw [hH' id (hcap id hid)]
    by_cases hex : ∃ y ∈ s.post, y.1 = id
    · refine lk_some _ _ (fun y hy e => ?_) hex
      rw [hpost y hy, e]
      refine hdd id hid ?_
      rcases in0 id (hcap id hid) with h | h
      · rw [h]; exact hd
      · exact h.1
    · rw [lk_none _ _ fun y hy e => hex ⟨y, hy, e⟩]; exact hd
  · rw [hnx] at hid
    show obj H' id = obj m.H id
    rw [hH' id (hcap id hid)]
    by_cases hex : ∃ y ∈ s.post, y.1 = id
    · obtain ⟨y, hy, e⟩ := hex
      rcases (hF.post y hy).2 with h | ⟨⟨z, hz, ez⟩, _, hg⟩
      · omega
      · have hn : ρ id = none := hc.resolve_right (by omega)
        have hm0 : obj m0.H id = obj m.H id := by
          rcases in0 id (hcap id hid) with h | h
          · exact h
          · exact absurd (ez.trans e) (h.2 z hz)
        refine lk_some _ _ (fun y hy e => ?_) ⟨y, hy, e⟩
        rw [hpost y hy, e, hp.keep0 id (by rw [hnx0]; exact hid) (.inl hn), hm0]
    · exact lk_none _ _ fun y hy e => hex ⟨y, hy, e⟩

/-- What is worked out of a call holds of it. -/
theorem SumOK.of {P : Program} {low : Low} (hlow : LowOK P low) {s : Sum} (h : sumB P low s = true) : SumOK P s := by
  unfold sumB at h
  rw [iff_eq] at h
  split at h
  case isFalse => cases h
  rename_i hf
  have hF := Sum.fine_ok hf
  refine ⟨hF, fun m H' hnx hdfs hpre hH' B0 A ρ w vals hw hA hr hfresh hargs rm wm dfs hle n => ?_⟩
  have hc := Nat.le_trans hF.nx hF.cap
  obtain ⟨H0, e0, h0⟩ := bldH_ok hc s.pre (fullN Ob.dead hd) (fun H => sumEnd s (low.call s.f s.args ⟨H, s.nx, inf, inf, []⟩)) hF.ids
  rw [e0] at h
  have h0 : ∀ id, id < capN hd → obj H0 id = lk id s.pre .dead := fun id hid => by
    rw [h0 id hid]
    have : obj (fullN Ob.dead CE.hd) id = .dead := get_full Ob.dead CE.hd id hid
    rw [this]
  unfold sumEnd at h
  split at h
  case h_2 => cases h
  rename_i v m0' hcall
  simp only [Bool.and_eq_true, ble_iff] at h
  obtain ⟨⟨⟨⟨⟨g1, g2⟩, g3⟩, g4⟩, g5⟩, g6⟩ := h
  have g1 := avEq_ok g1
  subst g1
  have g2 := beq_ok g2
  have hids : ∀ (l : List (Nat × Ob)) (nx : Nat), idsOk l nx = true → ∀ y ∈ l, y.1 < nx := fun l => by
    induction l with
    | nil => intro _ _ y hy; cases hy
    | cons x r ih =>
      intro nx h y hy
      simp only [idsOk, Bool.and_eq_true, ble_iff] at h
      rcases List.mem_cons.1 hy with rfl | hy
      · exact h.1
      · exact ih nx h.2 y hy
  have hpl := hids s.pre s.nx hF.ids
  have hlow1 : ∀ id, id < capN hd → obj H0 id = obj m.H id ∨ obj H0 id = .dead := fun id hid => by
    rw [h0 id hid]
    by_cases hex : ∃ y ∈ s.pre, y.1 = id
    · exact .inl (lk_some _ _ (fun y hy e => by rw [← hpre y hy, e]) hex)
    · exact .inr (lk_none _ _ fun y hy e => hex ⟨y, hy, e⟩)
  have hwf : WF P ⟨H0, s.nx, inf, inf, []⟩ := ⟨hF.glb, hc, fun id hid hcp => by
    have hid : s.nx ≤ id := hid
    show obj H0 id = .dead
    rw [h0 id hcp, lk_none _ _ fun y hy e => by have := hpl y hy; omega]⟩
  have hin : In A ⟨H0, s.nx, inf, inf, []⟩ m0' := fun id hid => hA id (by
    rcases hid with h | h
    · exact .inl (Nat.le_trans g5 h)
    · exact .inr h)
  have hrel : Rel P B0 A ρ H0 w := ⟨hr.gb, hr.b0, hr.cap, hr.lt, hr.glob, hr.own,
    fun i j ti tj ai aj gi gj hi hj hli hlj e => hr.inj i j ti tj ai aj gi gj hi hj
      (fun hh => by
        rcases hlow1 i (hr.cap i ti hi) with h | h
        · exact hli (h.trans hh)
        · exact hli h)
      (fun hh => by
        rcases hlow1 j (hr.cap j tj hj) with h | h
        · exact hlj (h.trans hh)
        · exact hlj h) e,
    fun i t hi hAi => by
      rcases hlow1 i (hr.cap i t hi) with h | h
      · rw [h]; exact hr.rows i t hi hAi
      · rw [h]; trivial⟩
  have hfr : Fresh ρ ⟨H0, s.nx, inf, inf, []⟩ m0' := fun id h1 h2 => hfresh id h1 (by rw [← g2]; exact h2)
  refine CallsIn.mono (hlow.call s.f s.args ⟨H0, s.nx, inf, inf, []⟩ _ m0' hcall rfl B0 A ρ w vals hwf hin hrel hfr hargs n) ?_
  rintro e w' ⟨x, ρ', he, hran⟩
  exact ⟨x, ρ', he, Ran.more hF hnx hpre hH' h0 rfl g2 g6 (memLe2_ok g3) (preKept_ok g4) hw hr hA hfresh hran hle⟩

theorem idsOk_of {nx : Nat} : ∀ {l : List (Nat × Ob)}, (∀ y ∈ l, y.1 < nx) → idsOk l nx = true
  | [], _ => rfl
  | x :: r, h => by
    simp only [idsOk, Bool.and_eq_true, ble_iff]
    exact ⟨h x (by simp), idsOk_of fun y hy => h y (by simp [hy])⟩

theorem applyS_ok {P : Program} {s : Sum} (hF : Fine P s) {H : NT hd Ob} {rm wm : Nat} {dfs : List Nat} {v : AV} {m' : M} (h : applyS s H rm wm dfs = .ok v m') :
    v = s.v ∧ ∃ H', (∀ id, id < capN hd → obj H' id = lk id s.post (obj H id)) ∧ m' = ⟨H', s.nx', min rm s.rm, min wm s.wm, dfs⟩ := by
  unfold applyS at h
  obtain ⟨H', e, h1⟩ := bldH_ok hF.cap s.post H (fun H => minK rm s.rm fun rm => minK wm s.wm fun wm => RO.ok s.v ⟨H, s.nx', rm, wm, dfs⟩) (idsOk_of fun y hy => (hF.post y hy).1)
  rw [e, minK_eq, minK_eq] at h
  cases h
  exact ⟨rfl, H', h1, rfl⟩

theorem tryM_ok {f : Nat} {args : List AV} {H : NT hd Ob} {nx rm wm : Nat} {dfs : List Nat} {k : RO} {v : AV} {m' : M} : ∀ {tbl : List Sum}, tryM f args H nx rm wm dfs k tbl = .ok v m' →
    k = .ok v m' ∨ ∃ s ∈ tbl, s.f = f ∧ s.args = args ∧ nx = s.nx ∧ (∀ x ∈ s.pre, x.2 = obj H x.1) ∧ applyS s H rm wm dfs = .ok v m'
  | [], h => .inl h
  | s :: r, h => by
    have rest : tryM f args H nx rm wm dfs k r = .ok v m' → k = .ok v m' ∨ ∃ t ∈ s :: r, t.f = f ∧ t.args = args ∧ nx = t.nx ∧ (∀ x ∈ t.pre, x.2 = obj H x.1) ∧ applyS t H rm wm dfs = .ok v m' := fun h => by
      rcases tryM_ok h with h | ⟨t, ht, h⟩
      · exact .inl h
      · exact .inr ⟨t, by simp [ht], h⟩
    unfold tryM at h
    rw [iff_eq] at h
    split at h
    · rename_i hf
      rw [iff_eq] at h
      split at h
      · rename_i hm
        simp only [matchS, Bool.and_eq_true] at hm
        exact .inr ⟨s, by simp, (beq_ok hf).symm, allEq_ok avEq_ok hm.1.2, beq_ok hm.1.1, memLe_ok hm.2, h⟩
      · exact rest h
    · exact rest h

theorem applyS_mono {P : Program} {s : Sum} (hF : Fine P s) {m : M} (hnx : m.nx = s.nx) {H' : NT hd Ob} (hH' : ∀ id, id < capN hd → obj H' id = lk id s.post (obj m.H id)) : Mono P m ⟨H', s.nx', min m.rm s.rm, min m.wm s.wm, m.dfs⟩ := by
  have h1 := hF.nx
  have h2 := hF.cap
  have h3 := hF.glb
  have h4 := hF.rw'
  refine ⟨by rw [hnx]; exact hF.nx, Nat.min_le_left _ _, Nat.min_le_left _ _, fun _ => hF.cap, fun hc id hid hlt => ?_, fun hc id hid hlt => ?_, fun hw => ⟨?_, hF.cap, fun id hid hcp => ?_⟩, fun h => ?_⟩
  · have hlt : id < min m.wm s.wm := hlt
    show obj H' id = obj m.H id
    rw [hH' id (by omega), lk_none _ _ fun y hy e => by
      rcases (hF.post y hy).2 with h | ⟨_, h, _⟩ <;> omega]
  · show obj H' id = obj m.H id
    rw [hH' id (by omega), lk_none _ _ fun y hy e => by
      rcases (hF.post y hy).2 with h | ⟨_, _, h⟩ <;> omega]
  · show glb P ≤ s.nx'; omega
  · have hid : s.nx' ≤ id := hid
    show obj H' id = .dead
    rw [hH' id hcp, lk_none _ _ fun y hy e => by have := (hF.post y hy).1; omega]
    exact hw.dead id (by omega) hcp
  · show min m.rm s.rm ≤ min m.wm s.wm
    omega

/-- Calls that are told already, and calls that are worked out, do as is said. -/
theorem lowT_ok {P : Program} (hden : DenOK P) {tbl : List Sum} (ht : ∀ s ∈ tbl, SumOK P s) (lf : Nat) : ∀ n, LowOK P (lowT P tbl lf n)
  | 0 => ⟨fun _ _ _ _ _ h => (by cases h), fun _ _ _ _ _ h => (by cases h), fun _ _ _ _ _ h => (by cases h), fun _ _ _ _ _ h => (by cases h)⟩
  | n + 1 => by
    have ih := lowT_ok hden ht lf n
    have split : ∀ {f : Nat} {args : List AV} {m : M} {v : AV} {m' : M}, (lowT P tbl lf (n + 1)).call f args m = .ok v m' → (fnD P lf f).f (lowT P tbl lf n) args m = .ok v m' ∨
        ∃ s ∈ tbl, s.f = f ∧ s.args = args ∧ m.nx = s.nx ∧ (∀ x ∈ s.pre, x.2 = obj m.H x.1) ∧ applyS s m.H m.rm m.wm m.dfs = .ok v m' := fun {f args m v m'} h => by
      have h : tryM f args m.H m.nx m.rm m.wm m.dfs (tagF f ((fnD P lf f).f (lowT P tbl lf n) args m)) tbl = .ok v m' := h
      rcases tryM_ok h with h | h
      · exact .inl (tagF_ok h)
      · exact .inr h
    refine ⟨fun f args m v m' h => ?_, fun id args m v m' h => ?_, fun f args m v m' h hdfs B0 A ρ w vals hw hin hr hf hargs k => ?_,
      fun id args m v m' h hdfs B0 A ρ w vals s hw hin hr hf hargs hs => round_ok hden ih h hdfs hw hin hr hf hargs hs⟩
    · rcases split h with h | ⟨s, hs, _, _, hnx, _, h⟩
      · exact fn_mono hden ih h
      · obtain ⟨_, H', h1, rfl⟩ := applyS_ok (ht s hs).1 h
        exact applyS_mono (ht s hs).1 hnx h1
    · have h : look P id m (roundOb P lf (lowT P tbl lf n) id args) = .ok v m' := h
      obtain ⟨rm, hrm, _, h⟩ := look_ok h
      have := round_mono hden ih h
      exact (Mono.marks' m _ hrm).trans this
    · rcases split h with h | ⟨s, hs, rfl, rfl, hnx, hpre, h⟩
      · exact fn_ok hden ih h hdfs hw hin hr hf hargs k
      · obtain ⟨rfl, H', h1, rfl⟩ := applyS_ok (ht s hs).1 h
        refine (ht s hs).2 m H' hnx hdfs (fun x hx => (hpre x hx).symm) h1 B0 A ρ w vals hw (fun id hid => hin id ?_) hr (fun id h1 h2 => hf id (by rw [hnx]; exact h1) h2) hargs _ _ _ (Nat.min_le_right _ _) k
        rcases hid with h | h
        · exact .inl (Nat.le_trans (Nat.min_le_right _ _) h)
        · exact .inr (by rw [hnx]; exact h)

/-- All of these do as they are told. -/
def AllOK (P : Program) (tbl : List Sum) : Prop := ∀ s ∈ tbl, SumOK P s

theorem AllOK.nil {P : Program} : AllOK P [] := fun _ h => by cases h

theorem AllOK.cons {P : Program} {s : Sum} {r : List Sum} (h : SumOK P s) (hr : AllOK P r) : AllOK P (s :: r) := fun t ht => by
  rcases List.mem_cons.1 ht with rfl | ht
  · exact h
  · exact hr t ht

/-- A call in whose working out others are told already. -/
theorem SumOK.run {P : Program} (hden : DenOK P) {tbl : List Sum} (ht : ∀ s ∈ tbl, SumOK P s) {lf n : Nat} {s : Sum} (h : sumB P (lowT P tbl lf n) s = true) : SumOK P s := SumOK.of (lowT_ok hden ht lf n) h

end Go.CE
