/- Regions in the text's order; code put together. No program is named. -/
import Derived.Test.YtjaklcmadkpmdaaDoorCeP
noncomputable section
namespace Go.CE
open Go

variable {P : Program} {B0 : Nat} {A W W' : Nat → Prop} {ρ ρ' ρ'' : Rho} {m m' m'' : M} {w w' w'' : World}

/-- The marks of deferred calls. -/
def DR (ρ : Rho) (dfs : List Nat) (ds : List Deferred) : Prop := All2 (fun id d => ∃ s, ρ id = some s ∧ d = { target := .collected s.blk, args := #[] }) dfs ds

theorem DR.mono (h : Ext ρ ρ') {dfs : List Nat} {ds : List Deferred} (hd : DR ρ dfs ds) : DR ρ' dfs ds := All2.mono (fun _ _ ⟨s, h1, h2⟩ => ⟨s, h _ _ h1, h2⟩) hd

/-- What code has done. -/
structure Gone (P : Program) (B0 : Nat) (A : Nat → Prop) (N D : Nat) (ρ : Rho) (m : M) (w : World) (e' : NT D AV) (m' : M) (a' : Act) (w' : World) (ρ' : Rho) : Prop where
  env : ENV ρ' N D e' a'.tmps
  dfs : DR ρ' m'.dfs a'.defers
  post : Post P B0 A (fun id => m'.wm ≤ id) ρ m w ρ' m' w'

def exOf : Ex → Exit
  | .norm => .normal
  | .exit id => .exit id
  | .goto l => .goto l
  | .ret => .ret

/-- The fence that belongs to a round (or to none). -/
def FOK (ρ : Rho) (rnd : Option Nat) (F : Fence) : Prop :=
  match rnd with
  | none => F = Fence.wide
  | some id => ∃ s, ρ id = some s ∧ F = Fence.wide.inRound s.blk

theorem FOK.wide {rnd : Option Nat} {F : Fence} (h : FOK ρ rnd F) : Wide F := by
  cases rnd with
  | none => exact .inl h
  | some id => obtain ⟨s, _, h⟩ := h; exact .inr ⟨_, h⟩

theorem FOK.mono (hx : Ext ρ ρ') {rnd : Option Nat} {F : Fence} (h : FOK ρ rnd F) : FOK ρ' rnd F := by
  cases rnd with
  | none => exact h
  | some id => obtain ⟨s, hs, h⟩ := h; exact ⟨s, hx _ _ hs, h⟩

/-- What is said of code that ends so. -/
def goneQ (P : Program) (B0 : Nat) (A : Nat → Prop) (N : Nat) {D : Nat} (ρ : Rho) (m : M) (w : World) (x : Ex) (e' : NT D AV) (m' : M) : Exit → Act → World → Prop :=
  fun ex a' w' => ∃ ρ', ex = exOf x ∧ Gone P B0 A N D ρ m w e' m' a' w' ρ'

structure CodeOK (P : Program) (c : Code) (N : Nat) {D : Nat} (d : Dn D) : Prop where
  mono : ∀ (cx : Ctx) (e : NT D AV) (m : M) (x : Ex) (e' : NT D AV) (m' : M), LowOK P cx.low → d.f cx e m = .ok x e' m' → Mono P m m'
  wp : ∀ (cx : Ctx) (e : NT D AV) (m : M) (x : Ex) (e' : NT D AV) (m' : M), LowOK P cx.low → d.f cx e m = .ok x e' m' →
    ∀ (B0 : Nat) (A : Nat → Prop) (ρ : Rho) (a : Act) (w : World), WF P m → In A m m' → Rel P B0 A ρ m.H w → ENV ρ N D e a.tmps → Fresh ρ m m' → DR ρ m.dfs a.defers →
      ∀ (F : Fence), FOK ρ cx.rnd F → ∀ n, c.wpIn F n P (goneQ P B0 A N ρ m w x e' m') a w

/-! ### One behind the other -/

theorem In.first (h : In A m m'') (h2 : Mono P m' m'') : In A m m' := fun id hid => h id (hid.imp (fun h' => Nat.le_trans h2.rm h') fun h => h)
theorem In.second (h : In A m m'') (h1 : Mono P m m') : In A m' m'' := fun id hid => h id (hid.imp (fun h => h) fun h' => Nat.le_trans h1.nx h')
theorem Fresh.first (h : Fresh ρ m m'') (h2 : Mono P m' m'') : Fresh ρ m m' := fun id h1 h3 => h id h1 (Nat.lt_of_lt_of_le h3 h2.nx)
theorem Fresh.second (h : Fresh ρ m m'') (h1 : Mono P m m') (hp : Post P B0 A W ρ m w ρ' m' w') : Fresh ρ' m' m'' := fun id h2 h3 => by
  cases h0 : ρ' id with
  | none => rfl
  | some s =>
    rcases hp.dom id s h0 with h4 | h4
    · rw [h id (Nat.le_trans h1.nx h2) h3] at h4; cases h4
    · omega

theorem Post.behind (h1 : Post P B0 A (fun id => m'.wm ≤ id) ρ m w ρ' m' w') (h2 : Post P B0 A (fun id => m''.wm ≤ id) ρ' m' w' ρ'' m'' w'') (hm : Mono P m' m'') (hf : Fresh ρ m m'') : Post P B0 A (fun id => m''.wm ≤ id) ρ m w ρ'' m'' w'' :=
  (h1.more fun _id hid => Nat.le_trans hm.wm hid).trans h2 hf

theorem Gone.behind {N D : Nat} {e'' : NT D AV} {a'' : Act} (h1 : Post P B0 A (fun id => m'.wm ≤ id) ρ m w ρ' m' w') (h2 : Gone P B0 A N D ρ' m' w' e'' m'' a'' w'' ρ'') (hm : Mono P m' m'') (hf : Fresh ρ m m'') :
    Gone P B0 A N D ρ m w e'' m'' a'' w'' ρ'' := ⟨h2.env, h2.dfs, h1.behind h2.post hm hf⟩

/-! ### Temporaries set -/

def putE (N : Nat) {D : Nat} (dst : Option Tmp) (e : NT D AV) (v : AV) : NT D AV := (putD N dst).f e v id

theorem putD_eq {β : Type} (N : Nat) {D : Nat} (dst : Option Tmp) (e : NT D AV) (v : AV) (k : NT D AV → β) : (putD N dst).f e v k = k (putE N dst e v) := by
  unfold putE
  cases dst with
  | none => rfl
  | some d =>
    unfold putD
    simp only [iff_ble]
    split
    · rw [setN_eq, setN_eq]; rfl
    · rfl

theorem ENV.putE {N D : Nat} {e : NT D AV} {a : Act} (he : ENV ρ N D e a.tmps) {v : AV} {x : Value} (hv : AR ρ v x) (dst : Option Tmp) : ENV ρ N D (putE N dst e v) (a.put dst x).tmps := by
  obtain ⟨e', h1, h2⟩ := he.put hv dst id
  have : CE.putE N dst e v = e' := h1
  rw [this]; exact h2

theorem put_defers (a : Act) (dst : Option Tmp) (x : Value) : (a.put dst x).defers = a.defers := by cases dst <;> rfl

/-! ### Regions in the text's order -/

theorem onOk_ok {D : Nat} {r : RO} {k : AV → M → R D} {x : Ex} {e' : NT D AV} (h : onOk r .fail k = .ok x e' m') : ∃ v m1, r = .ok v m1 ∧ k v m1 = .ok x e' m' := by
  cases r with
  | fail w => cases h
  | ok v m1 => exact ⟨v, m1, rfl, h⟩

/-- A guard, as it stands. -/
theorem guard_ok {N D : Nat} {e : NT D AV} {a : Act} (he : ENV ρ N D e a.tmps) (ops : Array Oper) (o : Oper) :
    ((guardD N ops o).f e = .run → Region.wanted o (yielded ops a.tmps) = true) ∧ ((guardD N ops o).f e = .skip → Region.wanted o (yielded ops a.tmps) = false) := by
  unfold guardD Region.wanted
  cases hg : o.guard with
  | none => exact ⟨fun _ => rfl, fun h => by cases h⟩
  | some p =>
    obtain ⟨j, want⟩ := p
    simp only
    unfold yielded
    cases hd : (ops[j]?).bind (·.dst) with
    | none => exact ⟨fun h => (by cases h), fun _ => rfl⟩
    | some t =>
      simp only [iff_ble, Option.bind_some]
      by_cases ht : t < N
      · rw [if_pos (Nat.succ_le_of_lt ht)]
        have hv := he.get t (Nat.lt_of_lt_of_le ht he.cap)
        have hts : a.tmps[t]? = some (a.tmps.getD t undef) := by
          rw [Array.getD_eq_getD_getElem?, Array.getElem?_eq_getElem (by rw [he.size]; exact ht)]; rfl
        rw [hts]
        simp only
        revert hv
        generalize a.tmps.getD t undef = v
        generalize (getN D t).f e = av
        intro hv
        unfold gdOf
        split
        · rename_i b
          have hv : v = .bool b := hv
          subst hv
          cases b <;> cases want <;> exact ⟨fun h => (by first | rfl | cases h), fun h => (by first | rfl | cases h)⟩
        · obtain ⟨vs, hv, hall⟩ := hv
          have : vs = #[] := by
            apply Array.ext'
            cases hvs : vs.toList with
            | nil => rfl
            | cons a l => rw [hvs] at hall; exact hall.elim
          subst this
          subst hv
          exact ⟨fun h => (by cases h), fun _ => rfl⟩
        · exact ⟨fun h => (by cases h), fun h => by cases h⟩
      · rw [if_neg (fun h => ht (Nat.lt_of_succ_le h))]
        have hts : a.tmps[t]? = none := Array.getElem?_eq_none (by rw [he.size]; exact Nat.le_of_not_lt ht)
        rw [hts]
        exact ⟨fun h => (by cases h), fun _ => rfl⟩

theorem runOps_cons {N D : Nat} (ops : Array Oper) (o : Oper) (r : List Oper) (c : Ctx) (e : NT D AV) (m : M) {x : Ex} {e' : NT D AV} (h : (runOps P N ops (o :: r)).f c e m = .ok x e' m') :
    ((guardD N ops o).f e = .run ∧ ∃ v m1, (opD P o).f c e m = .ok v m1 ∧ (runOps P N ops r).f c (putE N o.dst e v) m1 = .ok x e' m') ∨
    ((guardD N ops o).f e = .skip ∧ (runOps P N ops r).f c (putE N o.dst e undefA) m = .ok x e' m') := by
  have run : onOk ((opD P o).f c e m) .fail (fun v m => (putD N o.dst).f e v fun e => (runOps P N ops r).f c e m) = .ok x e' m' → ∃ v m1, (opD P o).f c e m = .ok v m1 ∧ (runOps P N ops r).f c (putE N o.dst e v) m1 = .ok x e' m' := fun h => by
    obtain ⟨v, m1, h1, h2⟩ := onOk_ok h
    rw [putD_eq] at h2
    exact ⟨v, m1, h1, h2⟩
  unfold runOps at h
  cases hg : o.guard with
  | none =>
    rw [hg] at h
    refine .inl ⟨?_, run h⟩
    unfold guardD; rw [hg]
  | some p =>
    rw [hg] at h
    have h : byGd ((guardD N ops o).f e) (onOk ((opD P o).f c e m) .fail fun v m => (putD N o.dst).f e v fun e => (runOps P N ops r).f c e m) ((putD N o.dst).f e undefA fun e => (runOps P N ops r).f c e m) (.fail [176]) = .ok x e' m' := h
    cases hgd : (guardD N ops o).f e with
    | run => rw [hgd] at h; exact .inl ⟨rfl, run h⟩
    | skip =>
      rw [hgd] at h
      have h : (putD N o.dst).f e undefA (fun e => (runOps P N ops r).f c e m) = .ok x e' m' := h
      rw [putD_eq] at h
      exact .inr ⟨rfl, h⟩
    | bad => rw [hgd] at h; cases h

theorem runOps_mono {N D : Nat} (ops : Array Oper) {c : Ctx} (hc : LowOK P c.low) : ∀ (l : List Oper) (e : NT D AV) (m : M) {x : Ex} {e' : NT D AV} {m' : M}, (runOps P N ops l).f c e m = .ok x e' m' → Mono P m m'
  | [], e, m, x, e', m', h => by
    have h : R.ok .norm e m = .ok x e' m' := h
    cases h; exact Mono.refl _
  | o :: r, e, m, x, e', m', h => by
    rcases runOps_cons ops o r c e m h with ⟨_, v, m1, h1, h2⟩ | ⟨_, h2⟩
    · exact (opD_mono o hc e (Mono.refl m) v m1 h1).trans (runOps_mono ops hc r _ _ h2)
    · exact runOps_mono ops hc r _ _ h2

theorem runOps_ok {N D : Nat} (ops : Array Oper) {c : Ctx} (hc : LowOK P c.low) {F : Fence} (hF : Wide F) (n : Nat) : ∀ (l : List Oper) (i : Nat), ops.toList.drop i = l → ∀ (e : NT D AV) (m : M) {x : Ex} {e' : NT D AV} {m' : M}, (runOps P N ops l).f c e m = .ok x e' m' →
    ∀ (ρ : Rho) (a : Act) (w : World), WF P m → In A m m' → Rel P B0 A ρ m.H w → ENV ρ N D e a.tmps → Fresh ρ m m' → DR ρ m.dfs a.defers →
      ∀ (Q : Exit → Act → World → Prop), (∀ a' w' ρ', x = .norm → Gone P B0 A N D ρ m w e' m' a' w' ρ' → Q .normal a' w') → wpOpsIn F n P ops Q (List.range' i l.length) a w
  | [], i, hl, e, m, x, e', m', h => by
    intro ρ a w hw hin hr he hf hd Q hQ
    have h : R.ok .norm e m = .ok x e' m' := h
    cases h
    exact hQ a w ρ rfl ⟨he, hd, Post.refl hw hr⟩
  | o :: r, i, hl, e, m, x, e', m', h => by
    intro ρ a w hw hin hr he hf hd Q hQ
    have hoi : ops[i]? = some o := by
      rw [← Array.getElem?_toList]
      have := congrArg (·[0]?) hl
      simpa using this
    have hdrop : ops.toList.drop (i + 1) = r := by
      have := congrArg List.tail hl
      simpa using this
    have hg := guard_ok he ops o
    rw [List.length_cons, List.range'_succ]
    simp only [wpOpsIn, hoi]
    rcases runOps_cons ops o r c e m h with ⟨hgd, v, m1, h1, h2⟩ | ⟨hgd, h2⟩
    · rw [hg.1 hgd]
      simp only [if_true]
      have mo1 := opD_mono o hc e (Mono.refl m) v m1 h1
      have mo2 := runOps_mono ops hc r _ _ h2
      refine opD_ok o c e m v m1 h1 hc B0 A N ρ a w hw (hin.first mo2) hr he (hf.first mo2) F hF n _ Q fun y w1 ρ1 hdone => ?_
      refine runOps_ok ops hc hF n r (i + 1) hdrop _ m1 h2 ρ1 _ w1 hdone.post.wf (hin.second mo1) hdone.post.rel ((he.mono hdone.post.ext).putE hdone.val o.dst) (hf.second mo1 hdone.post) ?_ Q fun a' w' ρ' hx hgone => hQ a' w' ρ' hx (hgone.behind hdone.post mo2 hf)
      rw [put_defers, hdone.dfs]; exact hd.mono hdone.post.ext
    · rw [hg.2 hgd]
      simp only [Bool.false_eq_true, if_false]
      refine ⟨fun f _ => hF.fn f, runOps_ok ops hc hF n r (i + 1) hdrop _ m h2 ρ _ w hw hin hr (he.putE (AR.undef ρ) o.dst) hf (by rw [put_defers]; exact hd) Q hQ⟩

theorem runOps_norm {N D : Nat} (ops : Array Oper) {c : Ctx} : ∀ (l : List Oper) (e : NT D AV) (m : M) {x : Ex} {e' : NT D AV} {m' : M}, (runOps P N ops l).f c e m = .ok x e' m' → x = .norm
  | [], e, m, x, e', m', h => by
    have h : R.ok .norm e m = .ok x e' m' := h
    cases h; rfl
  | o :: r, e, m, x, e', m', h => by
    rcases runOps_cons ops o r c e m h with ⟨_, v, m1, h1, h2⟩ | ⟨_, h2⟩
    · exact runOps_norm ops r _ _ h2
    · exact runOps_norm ops r _ _ h2

theorem region_ok (id : Nat) (ops : Array Oper) (N : Nat) {D : Nat} : CodeOK P (.region id ops false) N (runOps P N ops ops.toList (D := D)) := by
  refine ⟨fun cx e m x e' m' hc h => runOps_mono ops hc _ _ _ h, fun cx e m x e' m' hc h B0 A ρ a w hw hin hr he hf hd F hF n => wpIn_region ?_⟩
  have := runOps_ok (B0 := B0) (A := A) ops hc hF.wide n ops.toList 0 rfl e m h ρ a w hw hin hr he hf hd (goneQ P B0 A N ρ m w x e' m') fun a' w' ρ' hx hg => ⟨ρ', by rw [hx]; rfl, hg⟩
  rw [Array.length_toList, ← List.range_eq_range'] at this
  exact this

end Go.CE
