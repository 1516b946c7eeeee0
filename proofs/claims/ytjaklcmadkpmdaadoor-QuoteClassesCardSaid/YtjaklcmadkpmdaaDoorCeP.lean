/- Calls; regions in the text's order. No program is named. -/
import Derived.Test.YtjaklcmadkpmdaaDoorCeO
import Derived.KernelRfl
import Derived.RangeFuncNested
import Derived.OrdersIn
noncomputable section
namespace Go.CE
open Go

variable {P : Program} {B0 : Nat} {A W W' : Nat → Prop} {ρ ρ' ρ'' : Rho} {m m' m'' : M} {w w' w'' : World}

/-- What a call has done. -/
structure Ran (P : Program) (B0 : Nat) (A : Nat → Prop) (ρ : Rho) (m : M) (w : World) (v : AV) (m' : M) (x : Value) (w' : World) (ρ' : Rho) : Prop where
  val : AR ρ' v x
  post : Post P B0 A (fun id => m'.wm ≤ id) ρ m w ρ' m' w'

def ranR (P : Program) (B0 : Nat) (A : Nat → Prop) (ρ : Rho) (m : M) (w : World) (v : AV) (m' : M) (e : Ending) (w' : World) : Prop :=
  ∃ x ρ', e = .returned x ∧ Ran P B0 A ρ m w v m' x w' ρ'

/-- What calls lead to is as worked out. -/
structure LowOK (P : Program) (c : Low) : Prop where
  callM : ∀ (f : Nat) (args : List AV) (m : M) (v : AV) (m' : M), c.call f args m = .ok v m' → Mono P m m'
  roundM : ∀ (id : Nat) (args : List AV) (m : M) (v : AV) (m' : M), c.round id args m = .ok v m' → Mono P m m'
  call : ∀ (f : Nat) (args : List AV) (m : M) (v : AV) (m' : M), c.call f args m = .ok v m' → m.dfs = [] →
    ∀ (B0 : Nat) (A : Nat → Prop) (ρ : Rho) (w : World) (vals : List Value), WF P m → In A m m' → Rel P B0 A ρ m.H w → Fresh ρ m m' → All2 (AR ρ) args vals →
      ∀ n, CallsIn Fence.wide n P f vals.toArray w (ranR P B0 A ρ m w v m')
  round : ∀ (id : Nat) (args : List AV) (m : M) (v : AV) (m' : M), c.round id args m = .ok v m' → m.dfs = [] →
    ∀ (B0 : Nat) (A : Nat → Prop) (ρ : Rho) (w : World) (vals : List Value) (s : Seg), WF P m → In A m m' → Rel P B0 A ρ m.H w → Fresh ρ m m' → All2 (AR ρ) args vals → ρ id = some s →
      ∃ f tmps as bd, (Instr.yield s.blk vals.toArray).run P w = .ok (.round s.blk f tmps as bd) w ∧ ∀ n, RoundIn Fence.wide n P s.blk f tmps as bd w (ranR P B0 A ρ m w v m')

/-- A fence that lets everything in. -/
def Wide (F : Fence) : Prop := F = Fence.wide ∨ ∃ l, F = Fence.wide.inRound l

theorem Wide.fn {F : Fence} (h : Wide F) (f : Nat) : F.fn f := by rcases h with rfl | ⟨l, rfl⟩ <;> trivial
theorem Wide.depth {F : Fence} (h : Wide F) : F.depth = none := by rcases h with rfl | ⟨l, rfl⟩ <;> rfl
theorem Wide.calls {F : Fence} (h : Wide F) {n f : Nat} {args : Array Value} {R : Ending → World → Prop} (hc : CallsIn Fence.wide n P f args w R) : CallsIn F n P f args w R := by
  rcases h with rfl | ⟨l, rfl⟩ <;> exact hc
theorem Wide.rounds {F : Fence} (h : Wide F) {n l f : Nat} {tmps : Array Value} {as bd : Code} {R : Ending → World → Prop} (hc : RoundIn Fence.wide n P l f tmps as bd w R) : RoundIn F n P l f tmps as bd w R := by
  rcases h with rfl | ⟨l, rfl⟩ <;> exact hc

/-- An operation, calls and all. -/
def OpWp (P : Program) (o : Oper) {D : Nat} (f : OpF D) : Prop :=
  ∀ (c : Ctx) (e : NT D AV) (m : M) (v : AV) (m' : M), f.f c e m = .ok v m' → LowOK P c.low →
    ∀ (B0 : Nat) (A : Nat → Prop) (N : Nat) (ρ : Rho) (a : Act) (w : World), WF P m → In A m m' → Rel P B0 A ρ m.H w → ENV ρ N D e a.tmps → Fresh ρ m m' →
      ∀ (F : Fence), Wide F → ∀ (n : Nat) (K : Act → World → Prop) (Q : Exit → Act → World → Prop), (∀ x w' ρ', Done P B0 A ρ m w v m' x w' ρ' → K (a.put o.dst x) w') → o.wpIn F n P a w K Q

theorem runs_wp {o : Oper} {a : Act} {x : Value} (h : Runs P o a w x w') (hd : ∀ c, o.op ≠ .defer c) {F : Fence} (hF : Wide F) (n : Nat) {K : Act → World → Prop} {Q : Exit → Act → World → Prop} (hk : K (a.put o.dst x) w') : o.wpIn F n P a w K Q := by
  refine ⟨fun f _ => hF.fn f, ?_⟩
  rw [Oper.semAt_eq _ _ _ hd]
  rcases h with h | ⟨rfl, h⟩
  · rw [h]; exact hk
  · rw [h]; exact hk

theorem OpOK.wp {o : Oper} {D : Nat} {f : OpF D} (h : OpOK P o f) (hd : ∀ c, o.op ≠ .defer c) : OpWp P o f := by
  intro c e m v m' hf _ B0 A N ρ a w hw hin hr he hfr F hF n K Q hk
  obtain ⟨x, w', ρ', hrun, hdone⟩ := h c e m v m' hf B0 A N ρ a w hw hin hr he hfr
  exact runs_wp hrun hd hF n (hk x w' ρ' hdone)

theorem OpWp.no {o : Oper} {D k : Nat} : OpWp P o (noOp (D := D) k) := fun _ _ _ _ _ h => by cases h

/-! ### Calls -/

theorem evArgs_ok {D : Nat} {e : NT D AV} {ev : Operand → Value} (hx : ∀ x, AR ρ ((evO P x).f e) (ev x)) : ∀ (l : List Operand) (k : List AV → RO) {v : AV}, (evArgs P l).f e k = .ok v m' → ∃ args, k args = .ok v m' ∧ All2 (AR ρ) args (l.map ev)
  | [], k, v, h => ⟨[], h, trivial⟩
  | x :: r, k, v, h => by
    have h : (match (evO P x).f e with
      | .c v => (evArgs P r).f e fun l => k (.c v :: l)
      | .agg v => (evArgs P r).f e fun l => k (.agg v :: l)
      | _ => .fail [170]) = RO.ok v m' := h
    split at h
    · rename_i c hc
      obtain ⟨args, h1, h2⟩ := evArgs_ok hx r _ h
      have := hx x
      rw [hc] at this
      exact ⟨_, h1, this, h2⟩
    · rename_i c hc
      obtain ⟨args, h1, h2⟩ := evArgs_ok hx r _ h
      have := hx x
      rw [hc] at this
      exact ⟨_, h1, this, h2⟩
    · cases h

theorem evArgs_mono {D : Nat} {m0 : M} {e : NT D AV} {k : List AV → RO} (hk : ∀ l, MonoR P m0 (k l)) : ∀ (l : List Operand), MonoR P m0 ((evArgs P l).f e k) := by
  intro l
  induction l generalizing k with
  | nil => exact hk _
  | cons x r ih =>
    show MonoR P m0 (match (evO P x).f e with
      | .c v => (evArgs P r).f e fun l => k (.c v :: l)
      | .agg v => (evArgs P r).f e fun l => k (.agg v :: l)
      | _ => .fail [170])
    split
    · exact ih fun l => hk _
    · exact ih fun l => hk _
    · exact .fail _

theorem ptrArgs_ok {l : List (Nat × Nat)} {vs : List Value} {k : List AV} {ks : List Value} (h : All2 (PR ρ) l vs) (hk : All2 (AR ρ) k ks) : All2 (AR ρ) (ptrArgs l k) (vs ++ ks) := by
  induction l generalizing vs with
  | nil => cases vs with
    | nil => exact hk
    | cons _ _ => exact h.elim
  | cons x r ih => cases vs with
    | nil => exact h.elim
    | cons v vs =>
      obtain ⟨id, off⟩ := x
      exact ⟨h.1, ih h.2⟩

theorem appA_ok {l k : List AV} {vs ks : List Value} (h : All2 (AR ρ) l vs) (hk : All2 (AR ρ) k ks) : All2 (AR ρ) (appA l k) (vs ++ ks) := by
  induction l generalizing vs with
  | nil => cases vs with
    | nil => exact hk
    | cons _ _ => exact h.elim
  | cons x r ih => cases vs with
    | nil => exact h.elim
    | cons v vs => exact ⟨h.1, ih h.2⟩

theorem lent_ok {dfs : List Nat} {r : RO} {v : AV} (h : lent dfs r = .ok v m') : ∃ m1, r = .ok v m1 ∧ m' = ⟨m1.H, m1.nx, m1.rm, m1.wm, dfs⟩ := by
  unfold lent at h
  split at h
  · rename_i v1 m1
    obtain ⟨H, nx, rm, wm, d⟩ := m1
    have h : RO.ok v1 ⟨H, nx, rm, wm, dfs⟩ = .ok v m' := h
    cases h
    exact ⟨_, rfl, rfl⟩
  · cases h

theorem callK_ok {c : Low} {f : Nat} {args : List AV} {v : AV} (h : callK c f args m = .ok v m') : ∃ m1, c.call f args ⟨m.H, m.nx, m.rm, m.wm, []⟩ = .ok v m1 ∧ m' = ⟨m1.H, m1.nx, m1.rm, m1.wm, m.dfs⟩ := by
  obtain ⟨H, nx, rm, wm, d⟩ := m
  exact lent_ok h

theorem roundK_ok {c : Low} {f : Nat} {args : List AV} {v : AV} (h : roundK c f args m = .ok v m') : ∃ m1, c.round f args ⟨m.H, m.nx, m.rm, m.wm, []⟩ = .ok v m1 ∧ m' = ⟨m1.H, m1.nx, m1.rm, m1.wm, m.dfs⟩ := by
  obtain ⟨H, nx, rm, wm, d⟩ := m
  exact lent_ok h

theorem hasBody_ok {f : Nat} (h : hasBody P f = true) : ∃ fn b, P.funcs[f]? = some fn ∧ fn.body = some b ∧ ∀ (args : Array Value) (w : World), (callFunc f args).run P w = .ok (.enter f args) w := by
  unfold hasBody at h
  split at h
  · rename_i fn hfn
    simp only [Bool.and_eq_true, bne_iff_ne, ne_eq] at h
    obtain ⟨b, hb⟩ := Option.isSome_iff_exists.1 h.1
    refine ⟨fn, b, hfn, hb, fun args w => ?_⟩
    simp [callFunc, hfn, hb, h.2]
  · cases h

theorem noEsc_find {fn : Func} (h : fn.name = "internal/abi.NoEscape") : Extern.find fn = some Extern.AbiNoEscape.same := by
  have h1 : Extern.allGenericRows.lookup "internal/abi.NoEscape" = none := by kernel_rfl
  have h2 : Extern.allTypedRows.lookup "internal/abi.NoEscape" = none := by kernel_rfl
  have h3 : Extern.allRows.lookup "internal/abi.NoEscape" = some Extern.AbiNoEscape.same := by kernel_rfl
  unfold Extern.find
  rw [h]
  simp only [h1, h2, h3, Option.map_none]
  rfl

theorem isNoEsc_ok {f : Nat} (h : isNoEsc P f = true) : ∃ fn, P.funcs[f]? = some fn ∧ ∀ (y : Value) (w : World), (callFunc f #[y]).run P w = .ok (.value y) w := by
  unfold isNoEsc at h
  split at h
  · rename_i fn hf
    simp only [Bool.and_eq_true, beq_iff_eq] at h
    obtain ⟨⟨h1, h2⟩, h3⟩ := h
    refine ⟨fn, hf, fun y w => ?_⟩
    have h4 : Extern.findNext fn = none := by simpa using h3
    have h5 := noEsc_find h2
    unfold callFunc
    simp only [Sem.run_bind, run_program, Result.andThen_ok, hf]
    rw [h2]
    simp [h1, h4, h5, Lib.run_noEscape]
  · cases h

theorem plainArgs_ok : ∀ {l : List AV} {vs xs : List Value}, plainArgs l = some vs → All2 (AR ρ) l xs → xs = vs
  | [], vs, xs, h, hx => by
    simp [plainArgs] at h; subst h
    cases xs with
    | nil => rfl
    | cons _ _ => exact hx.elim
  | c :: l, vs, xs, h, hx => by
    unfold plainArgs at h
    split at h
    · rename_i v r h1 h2
      cases h
      cases xs with
      | nil => exact hx.elim
      | cons x xs => rw [toAV_ok h1 hx.1, plainArgs_ok h2 hx.2]
    · cases h

/-- A call of a function, as it is worked out. -/
theorem call_wp {o : Oper} {c : Low} (hlow : LowOK P c) {f : Nat} {args : List AV} {vals : List Value} {v : AV} (h : callK c f args m = .ok v m') (hargs : All2 (AR ρ) args vals) (hw : WF P m) (hin : In A m m') (hr : Rel P B0 A ρ m.H w) (hfr : Fresh ρ m m')
    {a : Act} (hd : ∀ c, o.op ≠ .defer c) (hexec : (execOp a.eval o).run P w = .ok (.enter f vals.toArray) w) {F : Fence} (hF : Wide F) (n : Nat) {K : Act → World → Prop} {Q : Exit → Act → World → Prop}
    (hk : ∀ x w' ρ', Done P B0 A ρ m w v m' x w' ρ' → K (a.put o.dst x) w') : o.wpIn F n P a w K Q := by
  obtain ⟨m1, h1, rfl⟩ := callK_ok h
  have hmono := hlow.callM _ _ _ _ _ h1
  refine ⟨fun f _ => hF.fn f, ?_⟩
  rw [Oper.semAt_eq _ _ _ hd, hexec]
  refine ⟨fun h => (by rw [hF.depth] at h; cases h), hF.calls (CallsIn.mono (hlow.call _ _ _ _ _ h1 rfl B0 A ρ w vals ⟨hw.gnx, hw.cap, hw.dead⟩ hin hr hfr hargs (n - 1)) ?_)⟩
  rintro e w' ⟨x, ρ', rfl, hran⟩
  exact hk x w' ρ' ⟨hran.val, hran.post.marks rfl rfl rfl rfl, hmono.rm, hmono.wm, rfl⟩

theorem callD_ok {o : Oper} {c : Call} {f : Operand} (ho : o.op = .call c) (hc : c.callee = .value f) {D : Nat} : OpWp P o (callD P f c.args.toList (D := D)) := by
  have hd : ∀ c, o.op ≠ .defer c := fun c h => by rw [ho] at h; cases h
  have hexec : ∀ (a : Act) (fn : Fn) (first caps : Array Value) (w : World), a.eval f = .func fn first caps → (execOp a.eval o).run P w = (invoke (.fn fn caps) (first ++ c.args.map a.eval)).run P w := fun a fn first caps w hf => by
    unfold execOp
    rw [ho]
    simp only [resolve, hc, hf, Deferred.ofValue, Sem.run_bind, Sem.run_pure, Result.andThen_ok]
  have hexecV : ∀ f', f = f' → (∀ g, f' ≠ .func g) → OpWp P o (⟨fun cx e m => callV P c.args.toList cx.low e m ((evO P f').f e)⟩ : OpF D) := by
    rintro f' rfl hnf
    intro cx e m v m' h hlow B0 A N ρ a w hw hin hr he hfr F hF n K Q hk
    have hx : ∀ y, AR ρ ((evO P y).f e) (a.eval y) := fun y => he.eval hr.glob y
    have h : callV P c.args.toList cx.low e m ((evO P f).f e) = .ok v m' := h
    unfold callV at h
    split at h
    · rename_i g fa fb hfe
      rw [iff_eq] at h
      split at h
      · rename_i hb
        obtain ⟨args, h, hargs⟩ := evArgs_ok hx _ _ h
        have hfv := hx f
        rw [hfe] at hfv
        obtain ⟨pa, pb, hfv, hpa, hpb⟩ := hfv
        obtain ⟨fn, b, _, _, hcf⟩ := hasBody_ok hb
        have hall := ptrArgs_ok hpa (appA_ok hargs (ptrArgs_ok (k := []) (ks := []) hpb trivial))
        refine call_wp hlow h hall hw hin hr hfr hd ?_ hF n hk
        rw [hexec a _ _ _ w hfv]
        simp only [invoke, hcf]
        congr 2
        apply Array.ext'
        simp
      · cases h
    · rename_i id hfe
      obtain ⟨args, h, hargs⟩ := evArgs_ok hx _ _ h
      have hfv := hx f
      rw [hfe] at hfv
      obtain ⟨s, hs, hfv⟩ := hfv
      obtain ⟨m1, h1, rfl⟩ := roundK_ok h
      have hmono := hlow.roundM _ _ _ _ _ h1
      obtain ⟨g, tmps, as, bd, hy, hround⟩ := hlow.round _ _ _ _ _ h1 rfl B0 A ρ w _ s ⟨hw.gnx, hw.cap, hw.dead⟩ hin hr hfr hargs hs
      refine ⟨fun f _ => hF.fn f, ?_⟩
      rw [Oper.semAt_eq _ _ _ hd, hexec a _ _ _ w hfv]
      have hinv : (invoke (.fn (.yield s.blk) #[]) (#[] ++ c.args.map a.eval)).run P w = .ok (.round s.blk g tmps as bd) w := by
        simp only [invoke]
        rw [← hy]
        congr 2
        apply Array.ext'
        simp
      rw [hinv]
      refine ⟨fun h => (by rw [hF.depth] at h; cases h), hF.rounds (RoundIn.mono (hround (n - 1)) ?_)⟩
      rintro e w' ⟨x, ρ', rfl, hran⟩
      exact hk x w' ρ' ⟨hran.val, hran.post.marks rfl rfl rfl rfl, hmono.rm, hmono.wm, rfl⟩
    · cases h
  unfold callD
  split
  · rename_i g
    rw [iff_eq]
    split
    · rename_i hb
      intro cx e m v m' h hlow B0 A N ρ a w hw hin hr he hfr F hF n K Q hk
      have hx : ∀ y, AR ρ ((evO P y).f e) (a.eval y) := fun y => he.eval hr.glob y
      have h : (evArgs P c.args.toList).f e (fun l => callK cx.low g l m) = .ok v m' := h
      obtain ⟨args, h, hargs⟩ := evArgs_ok hx _ _ h
      obtain ⟨fn, b, _, _, hcf⟩ := hasBody_ok hb
      refine call_wp hlow h hargs hw hin hr hfr hd ?_ hF n hk
      rw [hexec a _ _ _ w rfl]
      simp only [invoke, hcf]
      congr 2
      apply Array.ext'
      simp
    · intro cx e m v m' h hlow B0 A N ρ a w hw hin hr he hfr F hF n K Q hk
      have hx : ∀ y, AR ρ ((evO P y).f e) (a.eval y) := fun y => he.eval hr.glob y
      have h : (evArgs P c.args.toList).f e (fun l => externK P g l m) = .ok v m' := h
      obtain ⟨args, h, hargs⟩ := evArgs_ok hx _ _ h
      unfold externK at h
      split at h
      · rename_i vs hvs
        obtain ⟨y, hy, rfl, hay⟩ := backN_ok h
        have hrun := arun_ok (P := P) _ hy w
        refine runs_wp (x := y) (w' := w) (.inl ?_) hd hF n (hk y w ρ (Done.pure hw hr (hay ρ)))
        rw [hexec a _ _ _ w rfl]
        simp only [invoke]
        have hv := plainArgs_ok hvs hargs
        have e1 : (#[] ++ c.args.map a.eval ++ #[] : Array Value) = vs.toArray := by
          apply Array.ext'
          simp [← hv]
        rw [e1]; exact hrun
      · unfold noEsc at h
        split at h
        · rename_i id off
          rw [iff_eq] at h
          split at h
          · rename_i hb
            cases h
            obtain ⟨fn, hfn, hcf⟩ := isNoEsc_ok hb
            cases hl : c.args.toList.map a.eval with
            | nil => rw [hl] at hargs; exact hargs.elim
            | cons y r =>
              cases r with
              | cons _ _ => rw [hl] at hargs; exact hargs.2.elim
              | nil =>
                rw [hl] at hargs
                refine runs_wp (x := y) (w' := w) (.inl ?_) hd hF n (hk y w ρ (Done.pure hw hr hargs.1))
                rw [hexec a _ _ _ w rfl]
                simp only [invoke]
                have e1 : (#[] ++ c.args.map a.eval ++ #[] : Array Value) = #[y] := by
                  apply Array.ext'
                  simp [hl]
                rw [e1]; exact hcf y w
          · cases h
        · cases h
  · rename_i hne
    exact hexecV _ rfl fun g hg => hne g hg

theorem callD_mono {f : Operand} {args : List Operand} {D : Nat} {c : Ctx} (hc : LowOK P c.low) (e : NT D AV) {m0 m : M} (hm : Mono P m0 m) : MonoR P m0 ((callD P f args (D := D)).f c e m) := by
  have hcall : ∀ g l, MonoR P m0 (callK c.low g l m) := fun g l v m' h => by
    obtain ⟨m1, h1, rfl⟩ := callK_ok h
    have := hc.callM _ _ _ _ _ h1
    exact hm.trans (Mono.dfs' (this.dfs _))
  have hround : ∀ g l, MonoR P m0 (roundK c.low g l m) := fun g l v m' h => by
    obtain ⟨m1, h1, rfl⟩ := roundK_ok h
    have := hc.roundM _ _ _ _ _ h1
    exact hm.trans (Mono.dfs' (this.dfs _))
  unfold callD; split
  · rw [iff_eq]; split
    · exact evArgs_mono (fun l => hcall _ _) _
    · refine evArgs_mono (fun l => ?_) _
      unfold externK; split
      · exact .backN hm
      · unfold noEsc; split
        · exact .iff (.ok hm) (.fail _)
        · exact .fail _
  · show MonoR P m0 (callV P args c.low e m _)
    unfold callV; split
    · exact .iff (evArgs_mono (fun l => hcall _ _) _) (.fail _)
    · exact evArgs_mono (fun l => hround _ _) _
    · exact .fail _

/-! ### All operations -/

theorem opD_ok (o : Oper) {D : Nat} : OpWp P o (opD P o (D := D)) := by
  have nd : ∀ {op : Op}, o.op = op → (∀ c, op ≠ .defer c) → ∀ c, o.op ≠ .defer c := fun h h' c => by rw [h]; exact h' c
  unfold opD
  split
  · rename_i x h; exact (moveD_ok (.inl h)).wp (nd h fun _ => by simp)
  · rename_i x h; exact (moveD_ok (.inr h)).wp (nd h fun _ => by simp)
  · rename_i h; exact (pickD_ok h).wp (nd h fun _ => by simp)
  · rename_i h; exact (allocD_ok h).wp (nd h fun _ => by simp)
  · rename_i h; exact (boxD_ok h).wp (nd h fun _ => by simp)
  · rename_i h; exact (buildD_ok h).wp (nd h fun _ => by simp)
  · rename_i h; exact (buildSliceD_ok h).wp (nd h fun _ => by simp)
  · rename_i h; exact (loadD_ok h).wp (nd h fun _ => by simp)
  · rename_i h; exact (storeD_ok h).wp (nd h fun _ => by simp)
  · rename_i h; exact (nilCheckD_ok h).wp (nd h fun _ => by simp)
  · rename_i h; exact (binD_ok h).wp (nd h fun _ => by simp)
  · rename_i h; exact (unD_ok h).wp (nd h fun _ => by simp)
  · rename_i h; exact (convertD_ok h).wp (nd h fun _ => by simp)
  · rename_i h; exact (makeFuncD_ok h).wp (nd h fun _ => by simp)
  · rename_i h; exact (makeMapD_ok h).wp (nd h fun _ => by simp)
  · rename_i h; exact (makeSliceD_ok h).wp (nd h fun _ => by simp)
  · rename_i h; exact (sliceD_ok h).wp (nd h fun _ => by simp)
  · rename_i h; exact (fieldAddrD_ok h).wp (nd h fun _ => by simp)
  · rename_i h; exact (fieldD_ok h).wp (nd h fun _ => by simp)
  · rename_i h; exact (indexAddrD_ok h).wp (nd h fun _ => by simp)
  · rename_i h; exact (indexD_ok h).wp (nd h fun _ => by simp)
  · rename_i h; exact (lookupD_ok h).wp (nd h fun _ => by simp)
  · rename_i h; exact (mapUpdateD_ok (.inl h)).wp (nd h fun _ => by simp)
  · rename_i h; exact (mapUpdateD_ok (.inr h)).wp (nd h fun _ => by simp)
  · rename_i h; exact (extractD_ok h).wp (nd h fun _ => by simp)
  · rename_i c h
    split
    · rename_i f hf; exact callD_ok h hf
    · rename_i b hb; exact (builtinD_ok h hb).wp (nd h fun _ => by simp)
    · exact OpWp.no
  · exact OpWp.no

theorem opD_mono (o : Oper) {D : Nat} {c : Ctx} (hc : LowOK P c.low) (e : NT D AV) {m0 m : M} (hm : Mono P m0 m) : MonoR P m0 ((opD P o (D := D)).f c e m) := by
  unfold opD
  split
  · exact moveD_mono c e m0 m hm
  · exact moveD_mono c e m0 m hm
  · exact pickD_mono c e m0 m hm
  · exact allocD_mono c e m0 m hm
  · exact boxD_mono c e m0 m hm
  · exact buildD_mono c e m0 m hm
  · exact buildSliceD_mono c e m0 m hm
  · exact loadD_mono c e m0 m hm
  · exact storeD_mono c e m0 m hm
  · exact nilCheckD_mono c e m0 m hm
  · exact binD_mono c e m0 m hm
  · exact unD_mono c e m0 m hm
  · exact convertD_mono c e m0 m hm
  · exact makeFuncD_mono c e m0 m hm
  · exact makeMapD_mono c e m0 m hm
  · exact makeSliceD_mono c e m0 m hm
  · exact sliceD_mono c e m0 m hm
  · exact fieldAddrD_mono c e m0 m hm
  · exact fieldD_mono c e m0 m hm
  · exact indexAddrD_mono c e m0 m hm
  · exact indexD_mono c e m0 m hm
  · exact lookupD_mono c e m0 m hm
  · exact mapUpdateD_mono c e m0 m hm
  · exact mapUpdateD_mono c e m0 m hm
  · exact extractD_mono c e m0 m hm
  · split
    · exact callD_mono hc e hm
    · exact builtinD_mono c e m0 m hm
    · exact .fail _
  · exact .fail _

end Go.CE
