/- Rounds, functions, as deep as calls go. No program is named. -/
import Derived.Test.YtjaklcmadkpmdaaDoorCeS
noncomputable section
namespace Go.CE
open Go

variable {P : Program} {B0 : Nat} {A W W' : Nat → Prop} {ρ ρ' ρ'' : Rho} {m m' m'' : M} {w w' w'' : World}

theorem onExO_ok {D : Nat} {r : R D} {k : Ex → NT D AV → M → RO} {v : AV} (h : onEx r .fail k = .ok v m') : ∃ x1 e1 m1, r = .ok x1 e1 m1 ∧ k x1 e1 m1 = .ok v m' := by
  cases r with
  | fail w => cases h
  | ok x1 e1 m1 => exact ⟨x1, e1, m1, rfl, h⟩

/-! ### Rounds -/

theorem setPs_ok {N D : Nat} {bad : List Nat} : ∀ (ps : List Nat) (args : List AV) (e : NT D AV) (k : NT D AV → RO) {v : AV}, setPs N D (RO.fail bad) ps args e k = .ok v m' →
    ∃ e1, k e1 = .ok v m' ∧ ps.length = args.length ∧ ∀ (ρ : Rho) (vals : List Value) (tmps : Array Value), ENV ρ N D e tmps → All2 (AR ρ) args vals → ENV ρ N D e1 ((ps.zip vals).foldl (fun t p => t.setIfInBounds p.1 p.2) tmps)
  | [], [], e, k, v, h => ⟨e, h, rfl, fun ρ vals tmps he hall => by
      cases vals with
      | nil => exact he
      | cons _ _ => exact hall.elim⟩
  | p :: ps, x :: args, e, k, v, h => by
    have h : (putD N (some p)).f e x (fun e => setPs N D (RO.fail bad) ps args e k) = .ok v m' := h
    rw [putD_eq] at h
    obtain ⟨e1, h1, h2, h3⟩ := setPs_ok ps args _ k h
    refine ⟨e1, h1, by simp [h2], fun ρ vals tmps he hall => ?_⟩
    cases vals with
    | nil => exact hall.elim
    | cons y vals =>
      have := ENV.putE (a := { tmps := tmps, defers := [] }) he hall.1 (some p)
      exact h3 ρ vals _ this hall.2
  | [], _ :: _, e, k, v, h => by cases h
  | _ :: _, [], e, k, v, h => by cases h

def jumpOf : Ex → Option Jmp
  | .norm => none
  | .exit i => some (.exit i)
  | .goto l => some (.goto l)
  | .ret => some .ret

theorem roundPost_of {l : Nat} {R : Ending → World → Prop} (x : Ex) {a : Act} {v : Value} (h : (Instr.endRound l ((jumpOf x).map jmpCode)).run P w = .ok v w') (hR : R (.returned v) w') : roundPost P l R (exOf x) a w := by
  cases x <;> exact ⟨v, w', h, hR⟩

theorem endRoundOb_ok {id : Nat} {x : Ex} {ob : Ob} {v : AV} (h : endRoundOb P id x ob m = .ok v m') :
    ∃ st pd N D e ps as bd dfr, ob = .lp st pd N D e ps as bd dfr ∧ glb P ≤ id ∧ id < m.nx ∧ v = .c (.bool (jumpOf x).isNone) ∧
      m' = ⟨updN hd id m.H (.lp (if (jumpOf x).isNone then .ready else .done) (jumpOf x) N D e ps as bd dfr), m.nx, min m.rm id, min m.wm id, m.dfs⟩ := by
  unfold endRoundOb at h
  split at h
  · rename_i st pd N D e ps as bd dfr
    refine ⟨st, pd, N, D, e, ps, as, bd, dfr, rfl, ?_⟩
    cases x with
    | norm =>
      rcases turn_ok' h with h | ⟨hg, hlt, h⟩
      · cases h
      · have h : RO.ok (.c (.bool true)) _ = .ok v m' := h
        cases h; exact ⟨hg, hlt, rfl, rfl⟩
    | ret =>
      rcases turn_ok' h with h | ⟨hg, hlt, h⟩
      · cases h
      · have h : RO.ok (.c (.bool false)) _ = .ok v m' := h
        cases h; exact ⟨hg, hlt, rfl, rfl⟩
    | exit i =>
      rcases turn_ok' h with h | ⟨hg, hlt, h⟩
      · cases h
      · have h : RO.ok (.c (.bool false)) _ = .ok v m' := h
        cases h; exact ⟨hg, hlt, rfl, rfl⟩
    | goto i =>
      rcases turn_ok' h with h | ⟨hg, hlt, h⟩
      · cases h
      · have h : RO.ok (.c (.bool false)) _ = .ok v m' := h
        cases h; exact ⟨hg, hlt, rfl, rfl⟩
  · cases h

/-- The pieces of a round. -/
theorem roundOb_split {lf : Nat} {low : Low} {id : Nat} {args : List AV} {ob : Ob} {v : AV} (h : roundOb P lf low id args ob m = .ok v m') :
    ∃ st pd N D e ps as bd dfr e0 e1 m1 rm1 st1 pd1 N1 D1 e1' ps1 as1 bd1 dfr1 x2 e2 m3 rm3, ob = .lp st pd N D e ps as bd dfr ∧ ps.length = args.length ∧
      (∀ (ρ : Rho) (vals : List Value) (tmps : Array Value), ENV ρ N D e tmps → All2 (AR ρ) args vals → ENV ρ N D e0 ((ps.zip vals).foldl (fun t p => t.setIfInBounds p.1 p.2) tmps)) ∧
      (den P N as).run.f ⟨low, lf, some id⟩ e0 m = .ok .norm e1 m1 ∧ rm1 ≤ m1.rm ∧ obj m1.H id = .lp st1 pd1 N1 D1 e1' ps1 as1 bd1 dfr1 ∧ st1 = .ready ∧ glb P ≤ id ∧ id < m1.nx ∧
      (den P N bd).run.f ⟨low, lf, some id⟩ e1 ⟨updN hd id m1.H (.lp .busy pd1 N1 D1 e1' ps1 as1 bd1 dfr1), m1.nx, min rm1 id, min m1.wm id, m1.dfs⟩ = .ok x2 e2 m3 ∧ rm3 ≤ m3.rm ∧
      endRoundOb P id x2 (obj m3.H id) ⟨m3.H, m3.nx, rm3, m3.wm, m3.dfs⟩ = .ok v m' := by
  unfold roundOb at h
  split at h
  · rename_i st pd N D e ps as bd dfr
    rw [iff_ble] at h
    split at h
    · obtain ⟨e0, h, hlen, henv⟩ := setPs_ok ps args e _ h
      obtain ⟨x1, e1, m1, h1, h⟩ := onExO_ok h
      unfold beginX at h
      split at h
      · obtain ⟨rm1, hrm1, _, h⟩ := look_ok h
        unfold beginOb at h
        split at h
        · rename_i st1 pd1 N1 D1 e1' ps1 as1 bd1 dfr1 hob
          rw [iff_eq] at h
          split at h
          · rename_i hready
            have hst : st1 = .ready := by cases st1 <;> first | rfl | cases hready
            rcases turn_ok' h with h | ⟨hg, hlt, h⟩
            · cases h
            · obtain ⟨x2, e2, m3, h2, h⟩ := onExO_ok h
              obtain ⟨rm3, hrm3, _, h⟩ := look_ok (k := endRoundOb P id x2) h
              exact ⟨st, pd, N, D, e, ps, as, bd, dfr, e0, e1, m1, rm1, st1, pd1, N1, D1, e1', ps1, as1, bd1, dfr1, x2, e2, m3, rm3, rfl, hlen, henv, h1, hrm1, hob, hst, hg, hlt, h2, hrm3, h⟩
          · cases h
        · cases h
      · cases h
    · cases h
  · cases h

/-- That all code is as it is worked out. -/
def DenOK (P : Program) : Prop := ∀ (N D : Nat) (c : Code), CodeOK P c N (den P N c (D := D)).run

theorem round_mono (hden : DenOK P) {lf : Nat} {low : Low} (hlow : LowOK P low) {id : Nat} {args : List AV} {ob : Ob} {v : AV} (h : roundOb P lf low id args ob m = .ok v m') : Mono P m m' := by
  obtain ⟨st, pd, N, D, e, ps, as, bd, dfr, e0, e1, m1, rm1, st1, pd1, N1, D1, e1', ps1, as1, bd1, dfr1, x2, e2, m3, rm3, rfl, hlen, henv, h1, hrm1, hob1, rfl, hg, hlt, h2, hrm3, h3⟩ := roundOb_split h
  obtain ⟨_, _, _, _, _, _, _, _, _, _, hg3, hlt3, _, rfl⟩ := endRoundOb_ok h3
  have mo1 := (hden N D as).mono _ _ _ _ _ _ hlow h1
  have mo2 := (hden N D bd).mono _ _ _ _ _ _ hlow h2
  have u1 := Mono.upd' m1 hg hlt (.lp .busy pd1 N1 D1 e1' ps1 as1 bd1 dfr1) m1.dfs hrm1
  exact mo1.trans (u1.trans (mo2.trans (Mono.upd' m3 hg3 hlt3 _ _ hrm3)))

theorem round_ok (hden : DenOK P) {lf : Nat} {low : Low} (hlow : LowOK P low) {id : Nat} {args : List AV} {v : AV} (h : look P id m (roundOb P lf low id args) = .ok v m') (hdfs : m.dfs = [])
    (hw : WF P m) (hin : In A m m') (hr : Rel P B0 A ρ m.H w) (hf : Fresh ρ m m') {vals : List Value} (hargs : All2 (AR ρ) args vals) {s : Seg} (hs : ρ id = some s) :
    ∃ f tmps as bd, (Instr.yield s.blk vals.toArray).run P w = .ok (.round s.blk f tmps as bd) w ∧ ∀ n, RoundIn Fence.wide n P s.blk f tmps as bd w (ranR P B0 A ρ m w v m') := by
  obtain ⟨rm, hrm, hid, h⟩ := look_ok h
  have hmono := round_mono hden hlow h
  obtain ⟨st, pd, N, D, e, ps, as, bd, dfr, e0, e1, m1, rm1, st1, pd1, N1, D1, e1', ps1, as1, bd1, dfr1, x2, e2, m3, rm3, hob, hlen, henv, h1, hrm1, hob1, rfl, hg, hlt, h2, hrm3, h3⟩ := roundOb_split h
  obtain ⟨st3, pd3, N3, D3, e3, ps3, as3, bd3, dfr3, hob3, hg3, hlt3, rfl, rfl⟩ := endRoundOb_ok h3
  have mo1 := (hden N D as).mono _ _ _ _ _ _ hlow h1
  have mo2 := (hden N D bd).mono _ _ _ _ _ _ hlow h2
  have hA : A id := hin id (.inl (Nat.min_le_right _ _))
  have hat := hr.rows _ _ hs (.inl hA)
  rw [hob] at hat
  obtain ⟨fn, tmps, sd, hb, hsd, henv0⟩ := hat
  have hlv : vals.length = ps.length := by rw [hlen]; exact hargs.length.symm
  have hy := run_yield (P := P) (args := vals.toArray) hb (by simp [hlv])
  have hfold : (ps.toArray.zip vals.toArray).foldl (fun tmps (t, a) => tmps.setIfInBounds t a) tmps = (ps.zip vals).foldl (fun t p => t.setIfInBounds p.1 p.2) tmps := by
    rw [List.zip_toArray, List.foldl_toArray]
  have hfold : ((({ state := st, pending := pd.map jmpCode, fn, tmps, params := ps.toArray, assign := as, body := bd, defers := sd.blk } : Loop).params.zip vals.toArray).foldl (fun tmps (t, a) => tmps.setIfInBounds t a) tmps) = (ps.zip vals).foldl (fun t p => t.setIfInBounds p.1 p.2) tmps := hfold
  refine ⟨fn, _, as, bd, hy, fun n => roundIn_of_wpIn trivial ?_⟩
  have henv1 := henv ρ vals tmps henv0 hargs
  rw [← hfold] at henv1
  -- where it begins
  have hm0 : WF P ⟨m.H, m.nx, rm, m.wm, m.dfs⟩ := ⟨hw.gnx, hw.cap, hw.dead⟩
  have moA : Mono P ⟨m.H, m.nx, rm, m.wm, m.dfs⟩ m1 := mo1
  have moB : Mono P m1 ⟨updN hd id m1.H (.lp .busy pd1 N1 D1 e1' ps1 as1 bd1 dfr1), m1.nx, min rm1 id, min m1.wm id, m1.dfs⟩ := Mono.upd' m1 hg hlt _ _ hrm1
  have moD : Mono P m3 ⟨updN hd id m3.H (.lp (if (jumpOf x2).isNone then .ready else .done) (jumpOf x2) N3 D3 e3 ps3 as3 bd3 dfr3), m3.nx, min rm3 id, min m3.wm id, m3.dfs⟩ := Mono.upd' m3 hg3 hlt3 _ _ hrm3
  generalize hme : (⟨updN hd id m3.H (.lp (if (jumpOf x2).isNone then .ready else .done) (jumpOf x2) N3 D3 e3 ps3 as3 bd3 dfr3), m3.nx, min rm3 id, min m3.wm id, m3.dfs⟩ : M) = me at *
  have hin0 : In A ⟨m.H, m.nx, rm, m.wm, m.dfs⟩ me := hin
  have hf0 : Fresh ρ ⟨m.H, m.nx, rm, m.wm, m.dfs⟩ me := hf
  have mBD := mo2.trans moD
  have mAD := moB.trans mBD
  have hF : FOK ρ (some id) (Fence.wide.inRound s.blk) := ⟨s, hs, rfl⟩
  refine (hden N D as).on hlow h1 hm0 (hin0.first mAD) hr henv1 (hf0.first mAD) (by show DR ρ m.dfs []; rw [hdfs]; exact trivial) hF n fun a1 w1 ρ1 g1 => ?_
  -- it begins
  have hs1 := g1.post.ext _ _ hs
  have hat1 := g1.post.rel.rows _ _ hs1 (.inl hA)
  rw [hob1] at hat1
  obtain ⟨fn1, tmps1, sd1, hb1, hsd1, henv1'⟩ := hat1
  have hor1 : OR ρ1 s (.lp .busy pd1 N1 D1 e1' ps1 as1 bd1 dfr1) (some (.loop { state := .busy, pending := pd1.map jmpCode, fn := fn1, tmps := tmps1, params := ps1.toArray, assign := as1, body := bd1, defers := sd1.blk })) := ⟨fn1, tmps1, sd1, rfl, hsd1, henv1'⟩
  have hpB := (Post.setOb g1.post.wf g1.post.rel hA hs1 hg (fun h => by rw [hob1] at h; cases h) hb1 _ _ hor1 (min rm1 id) (min m1.wm id) m1.dfs).more (W' := fun j => min m1.wm id ≤ j) (fun j hj => by rw [hj]; exact Nat.min_le_right _ _)
  refine ⟨_, run_beginRound (P := P) hb1 rfl, ?_⟩
  have hinB := hin0.second moA
  have hfB := hf0.second moA g1.post
  refine (hden N D bd).on hlow h2 hpB.wf ((hinB.second moB).first moD) hpB.rel g1.env ((hfB.second moB hpB).first moD) g1.dfs (hF.mono g1.post.ext) n fun a3 w3 ρ3 g3 => ?_
  -- it ends
  have hs3 := g3.post.ext _ _ hs1
  have hat3 := g3.post.rel.rows _ _ hs3 (.inl hA)
  have hob3 : obj m3.H id = .lp st3 pd3 N3 D3 e3 ps3 as3 bd3 dfr3 := hob3
  rw [hob3] at hat3
  obtain ⟨fn3, tmps3, sd3, hb3, hsd3, henv3⟩ := hat3
  have hor3 : OR ρ3 s (.lp (if (jumpOf x2).isNone then .ready else .done) (jumpOf x2) N3 D3 e3 ps3 as3 bd3 dfr3) (some (.loop { state := if (jumpOf x2).isNone then .ready else .done, pending := (jumpOf x2).map jmpCode, fn := fn3, tmps := tmps3, params := ps3.toArray, assign := as3, body := bd3, defers := sd3.blk })) := ⟨fn3, tmps3, sd3, rfl, hsd3, henv3⟩
  have hpD := (Post.setOb g3.post.wf g3.post.rel hA hs3 hg (fun h => by rw [hob3] at h; cases h) hb3 _ _ hor3 (min rm3 id) (min m3.wm id) m3.dfs).more (W' := fun j => me.wm ≤ j) (fun j hj => by rw [hj, ← hme]; exact Nat.min_le_right _ _)
  rw [hme] at hpD
  have hnone : ((jumpOf x2).map jmpCode).isNone = (jumpOf x2).isNone := by cases x2 <;> rfl
  have hend := run_endRound (P := P) ((jumpOf x2).map jmpCode) hb3
  rw [hnone] at hend
  refine roundPost_of x2 hend ⟨_, ρ3, rfl, rfl, ?_⟩
  have c1 := g1.post.behind hpB moB (hf0.first mBD)
  have c2 := c1.behind g3.post mo2 (hf0.first moD)
  have c3 := c2.behind hpD moD hf0
  exact c3.marks rfl rfl rfl rfl

/-! ### Functions -/

theorem shutOb_ok {id : Nat} {k : M → RO} {ob : Ob} {v : AV} (h : shutOb P id k ob m = .ok v m') : ob = .dfr ∧ glb P ≤ id ∧ id < m.nx ∧ k ⟨updN hd id m.H .dead, m.nx, min m.rm id, min m.wm id, m.dfs⟩ = .ok v m' := by
  unfold shutOb at h
  split at h
  · rcases turn_ok' h with h | ⟨hg, hlt, h⟩
    · cases h
    · exact ⟨rfl, hg, hlt, h⟩
  · cases h

theorem shutDfs_mono {m0 : M} {k : M → RO} (hk : ∀ m1, Mono P m0 m1 → MonoR P m0 (k m1)) : ∀ (l : List Nat) (m : M), Mono P m0 m → MonoR P m0 (shutDfs P l k m)
  | [], m, hm => hk m hm
  | id :: r, m, hm => .look hm fun ob m1 h1 => by
      unfold shutOb; split
      · exact .turn h1 (.fail _) fun m2 h2 => shutDfs_mono hk r m2 h2
      · exact .fail _

theorem shut_ok {k : M → RO} {v : AV} {fn : Func} {tmps : Array Value} {R : Ending → World → Prop} {F : Fence} {n : Nat} (hk : ∀ m1 v m', k m1 = .ok v m' → Mono P m1 m') : ∀ (l : List Nat) (m : M) (ρ : Rho) (w : World) (ds : List Deferred), shutDfs P l k m = .ok v m' →
    WF P m → In A m m' → Rel P B0 A ρ m.H w → Fresh ρ m m' → DR ρ l ds →
    (∀ m1 w1, Post P B0 A (fun id => m'.wm ≤ id) ρ m w ρ m1 w1 → Mono P m m1 → Mono P m1 m' → k m1 = .ok v m' → ∃ y, (results fn tmps).run P w1 = .ok y w1 ∧ R (.returned y) w1) → LeavesInM F n P fn tmps R ds .returning w
  | [], m, ρ, w, ds, h, hw, hin, hr, hf, hd, hQ => by
    cases ds with
    | nil => exact hQ m w (Post.refl hw hr) (Mono.refl m) (hk m v m' h) h
    | cons _ _ => exact hd.elim
  | id :: r, m, ρ, w, ds, h, hw, hin, hr, hf, hd, hQ => by
    cases ds with
    | nil => exact hd.elim
    | cons d ds =>
      obtain ⟨⟨s, hs, rfl⟩, hd⟩ := hd
      obtain ⟨rm, hrm, hid, h⟩ := look_ok (k := shutOb P id (shutDfs P r k)) h
      obtain ⟨hob, hg, hlt, h⟩ := shutOb_ok h
      have mo2 : Mono P ⟨updN CE.hd id m.H .dead, m.nx, min rm id, min m.wm id, m.dfs⟩ m' := shutDfs_mono (m0 := ⟨updN CE.hd id m.H .dead, m.nx, min rm id, min m.wm id, m.dfs⟩) (fun m1 h1 v m' hkk => h1.trans (hk m1 v m' hkk)) r _ (Mono.refl _) v m' h
      have mo1 : Mono P m ⟨updN CE.hd id m.H .dead, m.nx, min rm id, min m.wm id, m.dfs⟩ := Mono.upd' m hg hlt _ _ hrm
      have hA : A id := hin id (.inl (Nat.le_trans mo2.rm (Nat.min_le_right _ _)))
      have hat := hr.rows _ _ hs (.inl hA)
      rw [hob] at hat
      have hb : w.heap[s.blk]? = some (.deferred (some [])) := hat
      have hp := (Post.setOb hw hr hA hs hg (fun h => by rw [hob] at h; cases h) hb .dead (.deferred none) trivial (min rm id) (min m.wm id) m.dfs).more (W' := fun j => min m.wm id ≤ j) (fun j hj => by rw [hj]; exact Nat.min_le_right _ _)
      refine ⟨by simp, .inl ⟨s.blk, _, rfl, run_takeDeferred hb, ?_⟩⟩
      refine shut_ok hk r _ ρ _ ds h hp.wf (hin.second mo1) hp.rel (hf.second mo1 hp) hd fun m1 w1 hp1 hm1 hm1' hk1 => ?_
      refine hQ m1 w1 ?_ (mo1.trans hm1) hm1' hk1
      have hp' := hp.more (W' := fun j => m'.wm ≤ j) (fun j hj => Nat.le_trans mo2.wm hj)
      exact hp'.trans hp1 (hf.first hm1')

/-- A result. -/
def resRun (tmps : Array Value) : ResultVar → Sem Value
  | .tmp t => pure (tmps.getD t undef)
  | .cell a t => do loadVar t (← asAddr (tmps.getD a undef))

theorem resOne_ok {N D : Nat} {r : ResultVar} {c : Ctx} {e : NT D AV} {v : AV} (h : (resOne P r).f c e m = .ok v m') : ∃ rm, rm ≤ m.rm ∧ m' = ⟨m.H, m.nx, rm, m.wm, m.dfs⟩ ∧
    ∀ (B0 : Nat) (A : Nat → Prop) (ρ : Rho) (a : Act) (w : World), Rel P B0 A ρ m.H w → ENV ρ N D e a.tmps → (∀ id, rm ≤ id → A id) → ∃ y, (resRun a.tmps r).run P w = .ok y w ∧ AR ρ v y := by
  cases r with
  | tmp t =>
    have h : ((iff (Nat.ble (Nat.succ t) (capN D)) ⟨fun _ e m => forceA ((getN D t).f e) m⟩ (noOp 198) : OpF D)).f c e m = .ok v m' := h
    rw [iff_ble] at h
    by_cases ht : Nat.succ t ≤ capN D
    · rw [if_pos ht] at h
      have h : forceA ((getN D t).f e) m = .ok v m' := h
      rw [forceA_eq] at h
      cases h
      exact ⟨m.rm, Nat.le_refl _, rfl, fun B0 A ρ a w hr he hA => ⟨_, rfl, he.get t ht⟩⟩
    · rw [if_neg ht] at h; cases h
  | cell x t =>
    have h : (loadD P t (.tmp x)).f c e m = .ok v m' := h
    obtain ⟨id, off, rm, hx, hrm, hid, _, rfl, hgo⟩ := loadD_go (o := { (default : Oper) with op := .load t (.tmp x) }) rfl h
    refine ⟨rm, hrm, rfl, fun B0 A ρ a w hr he hA => ?_⟩
    obtain ⟨y, hy, hay⟩ := hgo B0 A N ρ a w hr he (hid.imp (fun h => hA id h) fun h => h)
    refine ⟨y, ?_, hay⟩
    have hxv := he.eval hr.glob (.tmp x)
    rw [hx] at hxv
    obtain ⟨sg, hsg, hv⟩ := hxv
    have hv : a.tmps.getD x undef = .pointer (some ⟨sg.blk, sg.base + off, none⟩) := hv
    have hev : a.eval (.tmp x) = .pointer (some ⟨sg.blk, sg.base + off, none⟩) := hv
    have hl := run_bind_value hy
    unfold resRun
    simp only [hev, Instr.loadAt, Instr.sureAddr, Sem.run_bind, Sem.run_pure, Result.andThen_ok] at hl
    simp only [hv, asAddr, Sem.run_bind, Sem.run_pure, Result.andThen_ok]
    exact hl

theorem resAll_ok {N D : Nat} {c : Ctx} {e : NT D AV} {v : AV} : ∀ (l : List ResultVar) (m : M) (k : List TV → M → RO), (resAll P l).f e c m k = .ok v m' → ∃ rm vs, rm ≤ m.rm ∧ vs.length = l.length ∧ k vs ⟨m.H, m.nx, rm, m.wm, m.dfs⟩ = .ok v m' ∧
    ∀ (B0 : Nat) (A : Nat → Prop) (ρ : Rho) (a : Act) (w : World), Rel P B0 A ρ m.H w → ENV ρ N D e a.tmps → (∀ id, rm ≤ id → A id) → ∃ ys, (l.mapM (resRun a.tmps)).run P w = .ok ys w ∧ All2 (TR ρ) vs ys
  | [], m, k, h => ⟨m.rm, [], Nat.le_refl _, rfl, h, fun _ _ _ _ _ _ _ _ => ⟨[], rfl, trivial⟩⟩
  | r :: l, m, k, h => by
    have h : onOk ((resOne P r).f c e m) .fail (fun v m => tvOf v (.fail [199]) fun v => (resAll P l).f e c m fun r m => k (v :: r) m) = .ok v m' := h
    cases hr1 : (resOne P r).f c e m with
    | fail w => rw [hr1] at h; cases h
    | ok v1 m1 =>
      rw [hr1] at h
      have h : tvOf v1 (.fail [199]) (fun v => (resAll P l).f e c m1 fun r m => k (v :: r) m) = .ok v m' := h
      obtain ⟨rm1, hrm1, rfl, hgo1⟩ := resOne_ok (N := N) hr1
      rcases tvOf_ok h with h | ⟨t, h, _, ht⟩
      · cases h
      · obtain ⟨rm, vs, hrm, hlen, h, hgo⟩ := resAll_ok (N := N) l _ _ h
        refine ⟨rm, t :: vs, Nat.le_trans hrm hrm1, by simp [hlen], h, fun B0 A ρ a w hr he hA => ?_⟩
        obtain ⟨y, hy, hay⟩ := hgo1 B0 A ρ a w hr he (fun id hid => hA id (Nat.le_trans hrm hid))
        obtain ⟨ys, hys, hall⟩ := hgo B0 A ρ a w hr he hA
        refine ⟨y :: ys, ?_, ht ρ y hay, hall⟩
        simp only [List.mapM_cons, Sem.run_bind, hy, Result.andThen_ok, hys, Sem.run_pure]

theorem results_run (fn : Func) (tmps : Array Value) {ys : List Value} (h : (fn.results.toList.mapM (resRun tmps)).run P w = .ok ys w) : (results fn tmps).run P w = .ok (if ys.length = 1 then ys.headD undef else .tuple ys.toArray) w := by
  have e : results fn tmps = (do let vs ← fn.results.mapM (resRun tmps); pure (if h : vs.size = 1 then vs[0] else .tuple vs)) := by
    unfold results
    refine congrArg (fun g => (do let vs ← fn.results.mapM g; pure (if h : vs.size = 1 then vs[0] else .tuple vs) : Sem Value)) ?_
    funext r; cases r <;> rfl
  rw [e, Array.mapM_eq_mapM_toList]
  simp only [Sem.run_bind, Sem.run_map, h, Result.andThen_ok, Sem.run_pure]
  match ys with
  | [] => rfl
  | [y] => rfl
  | _ :: _ :: _ => simp

theorem resD_ok {N D : Nat} {fn : Func} {c : Ctx} {e : NT D AV} {v : AV} (h : (resD P fn.results.toList).f c e m = .ok v m') : ∃ rm, rm ≤ m.rm ∧ m' = ⟨m.H, m.nx, rm, m.wm, m.dfs⟩ ∧
    ∀ (B0 : Nat) (A : Nat → Prop) (ρ : Rho) (a : Act) (w : World), Rel P B0 A ρ m.H w → ENV ρ N D e a.tmps → (∀ id, rm ≤ id → A id) → ∃ y, (results fn a.tmps).run P w = .ok y w ∧ AR ρ v y := by
  unfold resD at h
  split at h
  · rename_i r hl
    obtain ⟨rm, hrm, hm, hgo⟩ := resOne_ok (N := N) h
    refine ⟨rm, hrm, hm, fun B0 A ρ a w hr he hA => ?_⟩
    obtain ⟨y, hy, hay⟩ := hgo B0 A ρ a w hr he hA
    have : (fn.results.toList.mapM (resRun a.tmps)).run P w = .ok [y] w := by
      rw [hl]
      simp only [List.mapM_cons, List.mapM_nil, Sem.run_bind, hy, Result.andThen_ok, Sem.run_pure]
    exact ⟨y, results_run fn a.tmps this, hay⟩
  · rename_i hne
    have h : (resAll P fn.results.toList).f e c m (fun vs m => .ok (.tup vs) m) = .ok v m' := h
    obtain ⟨rm, vs, hrm, hlen, hk, hgo⟩ := resAll_ok (N := N) _ _ _ h
    cases hk
    refine ⟨rm, hrm, rfl, fun B0 A ρ a w hr he hA => ?_⟩
    obtain ⟨ys, hys, hall⟩ := hgo B0 A ρ a w hr he hA
    have hres := results_run fn a.tmps hys
    have hl1 : ys.length ≠ 1 := fun h1 => by
      obtain ⟨r, hr1⟩ := List.length_eq_one_iff.1 (by rw [← hlen, hall.length]; exact h1 : fn.results.toList.length = 1)
      exact hne r hr1
    rw [if_neg hl1] at hres
    exact ⟨.tuple ys.toArray, hres, ys.toArray, rfl, hall⟩

/-! ### As deep as calls go -/

theorem tagF_ok {f : Nat} {r : RO} {v : AV} (h : tagF f r = .ok v m') : r = .ok v m' := by
  cases r with
  | fail w => cases h
  | ok v1 m1 => exact h

/-- A function's call, in its pieces. -/
theorem fnD_split {lf f : Nat} {low : Low} {args : List AV} {v : AV} (h : (fnD P lf f).f low args m = .ok v m') :
    ∃ fn b D, P.funcs[f]? = some fn ∧ fn.body = some b ∧ ∃ (e0 e1 : NT D AV) (x : Ex) (m1 : M), fn.ntmps ≤ capN D ∧ args.length ≤ fn.ntmps ∧ (∀ i, i < capN D → (getN D i).f e0 = args.getD i undefA) ∧
      (den P fn.ntmps b).run.f ⟨low, lf, none⟩ e0 m = .ok x e1 m1 ∧ (x = .norm ∨ x = .ret) ∧ shutDfs P m1.dfs (fun m => (resD P fn.results.toList).f ⟨low, lf, none⟩ e1 m) m1 = .ok v m' := by
  unfold fnD at h
  split at h
  · rename_i fn hfn
    split at h
    · rename_i b hb
      unfold fnBody at h
      rw [iff_eq] at h
      split at h
      · rename_i hcap
        have hcap := ble_iff.1 hcap
        have h : iff (Nat.ble args.length fn.ntmps) (bld undefA (levE fn.ntmps) args (fnRun P (den P fn.ntmps b).run (resD P fn.results.toList) ⟨low, lf, none⟩ m)) (.fail [201]) = .ok v m' := h
        rw [iff_ble] at h
        split at h
        · rename_i hlen
          obtain ⟨e0, h1, h2⟩ := bld_ok undefA (levE fn.ntmps) args (fnRun P (den P fn.ntmps b).run (resD P fn.results.toList) ⟨low, lf, none⟩ m)
          rw [h1] at h
          unfold fnRun at h
          obtain ⟨x, e1, m1, h3, h4⟩ := onExO_ok h
          refine ⟨fn, b, levE fn.ntmps, hfn, hb, e0, e1, x, m1, hcap, hlen, h2, h3, ?_⟩
          unfold finishX at h4
          split at h4
          · exact ⟨.inl rfl, h4⟩
          · exact ⟨.inr rfl, h4⟩
          · cases h4
        · cases h
      · cases h
    · cases h
  · cases h

theorem resD_mono {fn : Func} {D : Nat} {c : Ctx} {e : NT D AV} {m1 : M} {v : AV} (h : (resD P fn.results.toList).f c e m1 = .ok v m') : Mono P m1 m' := by
  obtain ⟨rm, hrm, rfl, _⟩ := resD_ok (N := 0) h
  exact Mono.marks' m1 _ hrm

theorem fn_mono (hden : DenOK P) {lf f : Nat} {low : Low} (hlow : LowOK P low) {args : List AV} {v : AV} (h : (fnD P lf f).f low args m = .ok v m') : Mono P m m' := by
  obtain ⟨fn, b, D, hfn, hb, e0, e1, x, m1, hcap, hlen, h2, h3, _, h4⟩ := fnD_split h
  exact ((hden fn.ntmps D b).mono _ _ _ _ _ _ hlow h3).trans (shutDfs_mono (fun m2 h2 v m' hk => h2.trans (resD_mono hk)) m1.dfs m1 (Mono.refl _) v m' h4)

theorem fn_ok (hden : DenOK P) {lf f : Nat} {low : Low} (hlow : LowOK P low) {args : List AV} {v : AV} (h : (fnD P lf f).f low args m = .ok v m') (hdfs : m.dfs = [])
    (hw : WF P m) (hin : In A m m') (hr : Rel P B0 A ρ m.H w) (hf : Fresh ρ m m') {vals : List Value} (hargs : All2 (AR ρ) args vals) (n : Nat) : CallsIn Fence.wide n P f vals.toArray w (ranR P B0 A ρ m w v m') := by
  obtain ⟨fn, b, D, hfn, hb, e0, e1, x, m1, hcap, hlen, h2, h3, hx, h4⟩ := fnD_split h
  have mo1 := (hden fn.ntmps D b).mono _ _ _ _ _ _ hlow h3
  have mo2 : Mono P m1 m' := shutDfs_mono (fun m2 h2 v m' hk => h2.trans (resD_mono hk)) m1.dfs m1 (Mono.refl _) v m' h4
  refine callsIn_of_wp_marks hfn hb trivial ?_
  have hvl : vals.length = args.length := hargs.length.symm
  have henv : ENV ρ fn.ntmps D e0 (vals.toArray ++ Array.replicate (fn.ntmps - vals.toArray.size) undef) := by
    refine ⟨by simp; omega, hcap, fun i hi => ?_⟩
    rw [h2 i hi, List.getD_eq_getElem?_getD, Array.getD_eq_getD_getElem?, Array.getElem?_append]
    by_cases hlt : i < args.length
    · obtain ⟨y, hy, hay⟩ := hargs.get i args[i] (List.getElem?_eq_getElem hlt)
      rw [List.getElem?_eq_getElem hlt]
      simp only [List.size_toArray]
      rw [if_pos (by omega), List.getElem?_toArray, hy]
      exact hay
    · rw [List.getElem?_eq_none (by omega)]
      simp only [List.size_toArray]
      rw [if_neg (by omega)]
      have : ((Array.replicate (fn.ntmps - vals.length) undef)[i - vals.length]?).getD undef = undef := by
        rw [Array.getElem?_replicate]
        split <;> rfl
      rw [this]
      exact AR.undef ρ
  refine (hden fn.ntmps D b).on hlow h3 hw (hin.first mo2) hr henv (hf.first mo2) (by rw [hdfs]; exact trivial) rfl n fun a1 w1 ρ1 g1 => ?_
  have leaves : LeavesInM Fence.wide n P fn a1.tmps (ranR P B0 A ρ m w v m') a1.defers .returning w1 := by
    refine shut_ok (fun m1 v m' hk => resD_mono hk) m1.dfs m1 ρ1 w1 a1.defers h4 g1.post.wf (hin.second mo1) g1.post.rel (hf.second mo1 g1.post) g1.dfs fun m2 w2 hp2 hm2 hm2' hk2 => ?_
    obtain ⟨rm, hrm, rfl, hgo⟩ := resD_ok (N := fn.ntmps) hk2
    obtain ⟨y, hy, hay⟩ := hgo B0 A ρ1 a1 w2 hp2.rel g1.env (fun id hid => hin id (.inl hid))
    refine ⟨y, hy, y, ρ1, rfl, hay, ?_⟩
    have hp1 := g1.post.more (W' := fun id => m2.wm ≤ id) (fun j hj => Nat.le_trans hm2.wm hj)
    exact (hp1.trans hp2 (hf.first hm2')).marks rfl rfl rfl rfl
  rcases hx with rfl | rfl
  · exact leaves
  · exact leaves

/-- What calls lead to is as it is worked out, as deep as may be. -/
theorem lowN_ok (hden : DenOK P) (lf : Nat) : ∀ n, LowOK P (lowN P lf n)
  | 0 => ⟨fun _ _ _ _ _ h => (by cases h), fun _ _ _ _ _ h => (by cases h), fun _ _ _ _ _ h => (by cases h), fun _ _ _ _ _ h => (by cases h)⟩
  | n + 1 => by
    have ih := lowN_ok hden lf n
    refine ⟨fun f args m v m' h => fn_mono hden ih (tagF_ok h), fun id args m v m' h => ?_, fun f args m v m' h hdfs B0 A ρ w vals hw hin hr hf hargs k => fn_ok hden ih (tagF_ok h) hdfs hw hin hr hf hargs k,
      fun id args m v m' h hdfs B0 A ρ w vals s hw hin hr hf hargs hs => round_ok hden ih h hdfs hw hin hr hf hargs hs⟩
    have h : look P id m (roundOb P lf (lowN P lf n) id args) = .ok v m' := h
    obtain ⟨rm, hrm, _, h⟩ := look_ok h
    have := round_mono hden ih h
    exact (Mono.marks' m _ hrm).trans this

end Go.CE
