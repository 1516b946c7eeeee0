/- A range over a function; its rounds. No program is named. -/
import Derived.Test.YtjaklcmadkpmdaaDoorCeR
noncomputable section
namespace Go.CE
open Go

variable {P : Program} {B0 : Nat} {A W W' : Nat → Prop} {ρ ρ' ρ'' : Rho} {m m' m'' : M} {w w' w'' : World}

theorem jmpX_wp (pd : Option Jmp) {F : Fence} {n : Nat} {Q : Exit → Act → World → Prop} {a : Act} (h : Q (exOf (jmpX pd)) a w) : match pd.map jmpCode with
    | none => Q .normal a w
    | some c => c.wpIn F n P Q a w := by
  cases pd with
  | none => exact h
  | some j => cases j with
    | exit id => exact wpIn_exit h
    | goto l => exact wpIn_goto h
    | ret => exact wpIn_ret h

/-- Behind the function that was ranged over: what is there. -/
theorem endLoopOb_ok {D : Nat} {id : Nat} {e e' : NT D AV} {ob : Ob} {x : Ex} (h : endLoopOb P id e ob m = .ok x e' m') :
    ∃ st pd N D' e2 ps as bd dfr, ob = .lp st pd N D' e2 ps as bd dfr ∧ st ≠ .busy ∧ glb P ≤ id ∧ id < m.nx ∧ x = jmpX pd ∧ e' = e ∧
      m' = ⟨updN hd id m.H (.lp .exhausted pd N D' e2 ps as bd dfr), m.nx, min m.rm id, min m.wm id, m.dfs⟩ := by
  unfold endLoopOb at h
  split at h
  · rename_i st pd N D' e2 ps as bd dfr
    rw [iff_eq] at h
    split at h
    · rename_i hb
      rcases turn_ok' h with h | ⟨hg, hlt, h⟩
      · cases h
      · cases h
        refine ⟨st, pd, N, D', e2, ps, as, bd, dfr, rfl, fun hs => ?_, hg, hlt, rfl, rfl, rfl⟩
        rw [hs] at hb; cases hb
    · cases h
  · cases h

/-- The rest of the statement, from where the loop's record is made. -/
theorem rangeNew_split {N D : Nat} {f : Operand} {ps : Array Tmp} {as bd : Code} {c : Low} {e e' : NT D AV} {dfr : Nat} {x : Ex} (h : rangeNew P N f ps as bd c e dfr m = .ok x e' m') :
    m.nx < capN hd ∧ ∃ g a b v m3 rm, (evO P f).f e = .c (.ref (.fn g a b)) ∧ hasBody P g = true ∧
      callK c g (ptrArgs a (.c (.ref (.yld m.nx)) :: ptrArgs b [])) ⟨updN hd m.nx m.H (.lp .ready none N D e ps.toList as bd dfr), m.nx + 1, m.rm, m.wm, m.dfs⟩ = .ok v m3 ∧ rm ≤ m3.rm ∧
      endLoopOb P m.nx e (obj m3.H m.nx) ⟨m3.H, m3.nx, rm, m3.wm, m3.dfs⟩ = .ok x e' m' := by
  rcases fresh_ok h with h | ⟨hnx, h⟩
  · cases h
  · refine ⟨hnx, ?_⟩
    unfold rangeGo at h
    split at h
    · rename_i g a b hfe
      rw [iff_eq] at h
      split at h
      · rename_i hb
        obtain ⟨v, m3, h1, h2⟩ := onOk_ok h
        obtain ⟨rm, hrm, _, h2⟩ := look_ok h2
        exact ⟨g, a, b, v, m3, rm, hfe, hb, h1, hrm, h2⟩
      · cases h
    · cases h

theorem callK_mono {c : Low} (hc : LowOK P c) {f : Nat} {args : List AV} {v : AV} (h : callK c f args m = .ok v m') : Mono P m m' ∧ m'.dfs = m.dfs := by
  obtain ⟨m1, h1, rfl⟩ := callK_ok h
  have := hc.callM _ _ _ _ _ h1
  exact ⟨Mono.dfs' (this.dfs _), rfl⟩

theorem rangeNew_mono {N D : Nat} {f : Operand} {ps : Array Tmp} {as bd : Code} {c : Low} (hc : LowOK P c) {e e' : NT D AV} {dfr : Nat} {x : Ex} (h : rangeNew P N f ps as bd c e dfr m = .ok x e' m') : Mono P m m' ∧ m'.dfs = m.dfs ∧ e' = e := by
  obtain ⟨hnx, g, a, b, v, m3, rm, _, _, h1, hrm, h2⟩ := rangeNew_split h
  obtain ⟨mo, hd⟩ := callK_mono hc h1
  obtain ⟨st, pd, N', D', e2, ps', as', bd', dfr', _, _, hg', hlt, _, rfl, rfl⟩ := endLoopOb_ok h2
  exact ⟨(Mono.new m hnx _ m.dfs).trans (mo.trans (Mono.upd' m3 hg' hlt _ _ hrm)), hd, rfl⟩

/-- The call, and what is behind it. -/
theorem rangeNew_ok {N D : Nat} {f : Operand} {ps : Array Tmp} {as bd : Code} {c : Low} (hc : LowOK P c) {e e' : NT D AV} {dfr : Nat} {sd : Seg} {x : Ex} (h : rangeNew P N f ps as bd c e dfr m = .ok x e' m')
    (hw : WF P m) (hin : In A m m') (hr : Rel P B0 A ρ m.H w) (hf : Fresh ρ m m') (hsd : ρ dfr = some sd) {a : Act} (he : ENV ρ N D e a.tmps) {F : Fence} (hF : Wide F) (n : Nat) (fn : FuncId) (mark : List Deferred) {Q : Exit → Act → World → Prop}
    (hQ : ∀ w' ρ', Post P B0 A (fun id => m'.wm ≤ id) ρ m w ρ' m' w' → Q (exOf x) { a with defers := mark ++ a.defers } w') :
    ∃ (d : Deferred) (w₁' : World) (g : FuncId) (args : Array Value) (w₂ : World),
      (resolve a.eval (rangeCall f w.heap.size) 0).run P (w.alloc (.loop { state := .ready, pending := none, fn, tmps := a.tmps, params := ps, assign := as, body := bd, defers := sd.blk })) = .ok d w₁' ∧
      (∀ f', Target.leads P w₁' d.target d.args = some f' → F.fn f') ∧ (invoke d.target d.args).run P w₁' = .ok (.enter g args) w₂ ∧ (F.depth.isSome = true → 1 ≤ n) ∧
      CallsIn F (n - 1) P g args w₂ (rangePost F n P w.heap.size Q { a with defers := mark ++ a.defers }) := by
  obtain ⟨hnx, g, fa, fb, v, m3, rm, hfe, hb, h1, hrm, h2⟩ := rangeNew_split h
  obtain ⟨mo3, hd3⟩ := callK_mono hc h1
  obtain ⟨st, pd, N', D', e2, ps', as', bd', dfr', hob, hst, hg, _, rfl, rfl, rfl⟩ := endLoopOb_ok h2
  have hρ : ρ m.nx = none := hf m.nx (Nat.le_refl _) (by show m.nx < m3.nx; exact mo3.nx)
  generalize hlo : (Obj.loop { state := .ready, pending := none, fn, tmps := a.tmps, params := ps, assign := as, body := bd, defers := sd.blk }) = lo
  have hor : OR (ins ρ m.nx ⟨w.heap.size, 0, 0⟩) ⟨w.heap.size, 0, 0⟩ (.lp .ready none N D e' ps.toList as bd dfr) (some lo) :=
    ⟨fn, a.tmps, sd, by rw [← hlo]; simp, ins_ext hρ _ _ hsd, he.mono (ins_ext hρ)⟩
  have hp2 := Post.alloc (W := fun id => min m3.wm m.nx ≤ id) hw hr hnx hρ lo _ 0 hor m.rm m.wm m.dfs
  have hfv := he.eval hr.glob f
  rw [hfe] at hfv
  obtain ⟨pa, pb, hfv, hpa, hpb⟩ := hfv
  obtain ⟨_, _, _, _, hcf⟩ := hasBody_ok hb
  have hx := ins_ext hρ (s := ⟨w.heap.size, 0, 0⟩)
  have hyld : AR (ins ρ m.nx ⟨w.heap.size, 0, 0⟩) (.c (.ref (.yld m.nx))) (.func (.yield w.heap.size) #[] #[]) := ⟨_, ins_self _ _, rfl⟩
  have hargs : All2 (AR (ins ρ m.nx ⟨w.heap.size, 0, 0⟩)) (ptrArgs fa (.c (.ref (.yld m.nx)) :: ptrArgs fb [])) (pa.toList ++ (Value.func (.yield w.heap.size) #[] #[] :: (pb.toList ++ []))) :=
    ptrArgs_ok (All2.mono (fun _ _ => PR.mono hx) hpa) ⟨hyld, ptrArgs_ok (k := []) (ks := []) (All2.mono (fun _ _ => PR.mono hx) hpb) trivial⟩
  obtain ⟨m1, hcall, hm3⟩ := callK_ok h1
  have mo1 := hc.callM _ _ _ _ _ hcall
  subst hm3
  refine ⟨{ target := .fn (.func g) pb, args := pa ++ #[Value.func (.yield w.heap.size) #[] #[]] }, w.alloc lo, g, (pa.toList ++ (Value.func (.yield w.heap.size) #[] #[] :: (pb.toList ++ []))).toArray, w.alloc lo, ?_, fun f' _ => hF.fn f', ?_, fun h => (by rw [hF.depth] at h; cases h), ?_⟩
  · simp only [resolve, hfv, Deferred.ofValue]
    simp [Sem.run_pure]
    rfl
  · simp only [invoke, hcf]
    congr 2
    apply Array.ext'
    simp
  · have hin2 : In A ⟨updN hd m.nx m.H (.lp .ready none N D e' ps.toList as bd dfr), m.nx + 1, m.rm, m.wm, []⟩ m1 := fun id hid => hin id (hid.imp (fun h => Nat.le_trans (Nat.le_trans (Nat.min_le_left _ _) hrm) h) fun h => Nat.le_trans (Nat.le_succ _) h)
    have hf2 : Fresh (ins ρ m.nx ⟨w.heap.size, 0, 0⟩) ⟨updN hd m.nx m.H (.lp .ready none N D e' ps.toList as bd dfr), m.nx + 1, m.rm, m.wm, []⟩ m1 := fun id hid1 hid2 => by
      have hid1 : m.nx + 1 ≤ id := hid1
      rw [ins_other (by omega)]
      exact hf id (by omega) hid2
    refine hF.calls (CallsIn.mono (hc.call _ _ _ _ _ hcall rfl B0 A _ _ _ ⟨hp2.wf.gnx, hp2.wf.cap, hp2.wf.dead⟩ hin2 hp2.rel hf2 hargs (n - 1)) ?_)
    rintro ed w3 ⟨y, ρ3, rfl, hran⟩
    -- behind the call
    have hA : A m.nx := hin m.nx (.inr (Nat.le_refl _))
    have hs3 : ρ3 m.nx = some ⟨w.heap.size, 0, 0⟩ := hran.post.ext _ _ (ins_self _ _)
    have hob3 : obj m1.H m.nx = .lp st pd N' D' e2 ps' as' bd' dfr' := hob
    have hat := hran.post.rel.rows _ _ hs3 (.inl hA)
    rw [hob3] at hat
    obtain ⟨fn', tmps', sd', hb3, hsd', henv'⟩ := hat
    have hb3' : w3.heap[w.heap.size]? = some (.loop { state := st, pending := pd.map jmpCode, fn := fn', tmps := tmps', params := ps'.toArray, assign := as', body := bd', defers := sd'.blk }) := hb3
    have hend := run_endLoop (P := P) hb3' hst
    refine ⟨pd.map jmpCode, _, hend, jmpX_wp pd ?_⟩
    have hor4 : OR ρ3 ⟨w.heap.size, 0, 0⟩ (.lp .exhausted pd N' D' e2 ps' as' bd' dfr') (some (.loop { state := .exhausted, pending := pd.map jmpCode, fn := fn', tmps := tmps', params := ps'.toArray, assign := as', body := bd', defers := sd'.blk })) := ⟨fn', tmps', sd', rfl, hsd', henv'⟩
    have hp4 := (Post.setOb hran.post.wf hran.post.rel hA hs3 hg (fun h => by rw [hob3] at h; cases h) hb3 _ _ hor4 (min rm m.nx) (min m1.wm m.nx) m.dfs).more (W' := fun id => min m1.wm m.nx ≤ id) (fun j hj => by rw [hj]; exact Nat.min_le_right _ _)
    have hfall : Fresh ρ m m1 := fun id h1 h2 => hf id h1 h2
    have hp23 := (hp2.marks (n := ⟨m.H, m.nx, m.rm, m.wm, m.dfs⟩) (n' := ⟨updN hd m.nx m.H (.lp .ready none N D e' ps.toList as bd dfr), m.nx + 1, m.rm, m.wm, []⟩) rfl rfl rfl rfl).trans (hran.post.more (W' := fun id => min m1.wm m.nx ≤ id) fun j hj => Nat.le_trans (Nat.min_le_left _ _) hj) (m'' := m1) hfall
    exact hQ _ ρ3 (hp23.trans hp4 (m'' := ⟨updN hd m.nx m1.H (.lp .exhausted pd N' D' e2 ps' as' bd' dfr'), m1.nx, min rm m.nx, min m1.wm m.nx, m.dfs⟩) (fun id h1 h2 => hf id h1 h2))

theorem range_ok {N D : Nat} {f : Operand} {ps : Array Tmp} {as bd : Code} : CodeOK P (.rangeFunc f ps as bd) N (rangeD P N f ps as bd (D := D)) := by
  refine ⟨fun cx e m x e' m' hc hd => ?_, fun cx e m x e' m' hc hd B0 A ρ a w hw hin hr he hf hdr F hF n => ?_⟩
  · obtain ⟨low, lf, rnd⟩ := cx
    cases rnd with
    | none =>
      have hd : fresh .dfr m (.fail [188]) (fun dfr m => rangeNew P N f ps as bd low e dfr (pushDfs dfr m)) = R.ok x e' m' := hd
      rcases fresh_ok hd with hd | ⟨hnx, hd⟩
      · cases hd
      · have hd : rangeNew P N f ps as bd low e m.nx ⟨updN CE.hd m.nx m.H .dfr, m.nx + 1, m.rm, m.wm, m.nx :: m.dfs⟩ = R.ok x e' m' := hd
        obtain ⟨mo, _, _⟩ := rangeNew_mono hc hd
        exact (Mono.new m hnx _ _).trans mo
    | some r =>
      have hd : look P r m (rangeIn P N f ps as bd low e) = R.ok x e' m' := hd
      obtain ⟨rm, hrm, _, hd⟩ := look_ok hd
      unfold rangeIn at hd
      split at hd
      · obtain ⟨mo, _, _⟩ := rangeNew_mono hc hd
        exact (Mono.marks' m _ hrm).trans mo
      · cases hd
  · have hFw := hF.wide
    obtain ⟨low, lf, rnd⟩ := cx
    refine wpIn_rangeFunc fun fn hfn => ?_
    cases rnd with
    | none =>
      have hF : F = Fence.wide := hF
      have hd : fresh .dfr m (.fail [188]) (fun dfr m => rangeNew P N f ps as bd low e dfr (pushDfs dfr m)) = R.ok x e' m' := hd
      rcases fresh_ok hd with hd | ⟨hnx, hd⟩
      · cases hd
      · have hd : rangeNew P N f ps as bd low e m.nx ⟨updN CE.hd m.nx m.H .dfr, m.nx + 1, m.rm, m.wm, m.nx :: m.dfs⟩ = R.ok x e' m' := hd
        obtain ⟨mo, hdfs, rfl⟩ := rangeNew_mono hc hd
        have hρ : ρ m.nx = none := hf m.nx (Nat.le_refl _) mo.nx
        have hp1 := Post.alloc (W := fun id => m'.wm ≤ id) hw hr hnx hρ (.deferred (some [])) .dfr 0 rfl m.rm m.wm (m.nx :: m.dfs)
        have mo1 : Mono P m ⟨updN CE.hd m.nx m.H .dfr, m.nx + 1, m.rm, m.wm, m.nx :: m.dfs⟩ := Mono.new m hnx _ _
        obtain ⟨d, w1', g, args, w2, h1, h2, h3, h4, h5⟩ := rangeNew_ok hc hd hp1.wf (hin.second mo1) hp1.rel (hf.second mo1 hp1) (ins_self _ _) (he.mono (ins_ext hρ)) hFw n fn [{ target := .collected w.heap.size, args := #[] }] (Q := goneQ P B0 A N ρ m w x e' m') fun w' ρ' hp => by
          refine ⟨ρ', rfl, (he.mono (ins_ext hρ)).mono hp.ext, ?_, hp1.trans hp hf⟩
          rw [hdfs]
          exact ⟨⟨_, hp.ext _ _ (ins_self _ _), rfl⟩, (hdr.mono (ins_ext hρ)).mono hp.ext⟩
        rw [World.size_alloc] at h1 h5
        refine ⟨w.heap.size + 1, [{ target := .collected w.heap.size, args := #[] }], _, d, w1', g, args, w2, ?_, h1, h2, h3, h4, h5⟩
        rw [hF]
        exact run_enterLoop_outer fn a.tmps ps as bd
    | some r =>
      obtain ⟨s, hs, hF⟩ := hF
      have hd : look P r m (rangeIn P N f ps as bd low e) = R.ok x e' m' := hd
      obtain ⟨rm, hrm, hid, hd⟩ := look_ok hd
      unfold rangeIn at hd
      split at hd
      · rename_i st pd N' D' e2 ps2 as2 bd2 dfr hob
        obtain ⟨mo, hdfs, rfl⟩ := rangeNew_mono hc hd
        have hat := hr.rows _ _ hs (hid.imp (fun h => hin r (.inl (Nat.le_trans mo.rm h))) fun h => h)
        rw [hob] at hat
        obtain ⟨fn', tmps', sd, hb, hsd, henv⟩ := hat
        obtain ⟨d, w1', g, args, w2, h1, h2, h3, h4, h5⟩ := rangeNew_ok hc hd ⟨hw.gnx, hw.cap, hw.dead⟩ (fun id hid => hin id hid) hr (fun id h1 h2 => hf id h1 h2) hsd he hFw n fn [] (Q := goneQ P B0 A N ρ m w x e' m') fun w' ρ' hp => by
          refine ⟨ρ', rfl, he.mono hp.ext, ?_, hp.marks rfl rfl rfl rfl⟩
          rw [hdfs]
          exact hdr.mono hp.ext
        refine ⟨w.heap.size, [], _, d, w1', g, args, w2, ?_, h1, h2, h3, h4, h5⟩
        rw [hF]
        exact run_enterLoop_inner hb fn a.tmps ps as bd
      · cases hd

end Go.CE
