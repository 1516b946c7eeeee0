/- A region whose order is drawn does as it is worked out, whatever the order; so does all code. No program is named. -/
import Derived.Test.YtjaklcmadkpmdaaDoorCeY
noncomputable section
namespace Go.CE
open Go

variable {P : Program} {B0 : Nat} {A : Nat → Prop} {c : Ctx} {N : Nat} {D : Nat} {ops : Array Oper} {E : Nat → NT D AV} {S : Nat → M} {ρ0 ρ ρ' : Rho} {w0 w w' : World} {ds : List Deferred} {L : Nat → Prop} {a : Act} {eS : NT D AV}

theorem Trace.foot (T : Trace P c N ops E S) (hin : In A (S 0) (S ops.size)) {j : Nat} {o : Oper} (hj : ops[j]? = some o) {v : AV} {mr : M} (r : RunK P c N ops o (E j) (S j) (E (j + 1)) (S (j + 1)) v mr) :
    Foot A ops S j (Tf (single o.op) mr) (Wf (single o.op) mr) := by
  have hjn : j < ops.size := (Array.getElem?_eq_some_iff.1 hj).1
  have R := T.opRun hj r
  have hmono := T.mono' (show j + 1 ≤ ops.size by omega) (Nat.le_refl _)
  have h1 : (S (j + 1)).rm ≤ mr.rm := by rw [r.hm]; exact Nat.min_le_right _ _
  have h2 : (S (j + 1)).wm ≤ mr.wm := by rw [r.hm]; exact Nat.min_le_right _ _
  refine ⟨fun id hid hW => ?_, R.sub, fun id _ hT => hin id (.inl ?_), fun id _ hW => ?_, fun k hk hne id h3 h4 hT hns => ?_⟩
  · have := R.keep id hid hW
    unfold Same
    rw [r.hm]; exact this
  · have := hT.rm; have := hmono.rm; omega
  · have := hW.wm; have := hmono.wm; omega
  · obtain ⟨logf, _, h⟩ := T.log
    have hko := Array.getElem?_eq_getElem hk
    rcases h k _ hko with ⟨vk, mk, rk, _⟩ | sk
    · rcases T.conf hj hko r rk hne h3 h4 (Classical.byContradiction fun hW => hns (by
        have := (T.opRun hko rk).keep id h4 hW
        unfold Same
        rw [rk.hm]; exact this)) hT with h | ⟨h5, h6⟩
      · exact h
      · refine absurd ?_ hns
        rw [h5] at hT
        simp only [Tf, if_true] at hT
        have := obEq_ok h6
        rw [← hT] at this
        unfold Same
        rw [rk.hm]; exact this.symm
    · exact absurd (by unfold Same; rw [sk.hm]) hns

def Lof (listed : Array Bool) (k : Nat) : Prop := listed.getD k false = true

theorem Lof_set {listed : Array Bool} {j : Nat} (hj : j < listed.size) : Lof (listed.setIfInBounds j true) = fun k => Lof listed k ∨ k = j := by
  funext k
  apply propext
  unfold Lof
  by_cases h : k = j
  · subst h
    simp [hj]
  · rw [getD_set_ne false (fun e => h e.symm)]
    simp [h]

def unl (n : Nat) (listed : Array Bool) : List Nat := (List.range n).filter fun k => !listed.getD k true

theorem unl_set {n : Nat} {listed : Array Bool} {j : Nat} (hjn : j < n) (hj : listed.getD j true = false) : (unl n (listed.setIfInBounds j true)).length < (unl n listed).length := by
  have hlt : j < listed.size := by
    rcases Nat.lt_or_ge j listed.size with h | h
    · exact h
    · simp [Array.getElem?_eq_none h] at hj
  have : unl n (listed.setIfInBounds j true) = (unl n listed).filter fun k => k != j := by
    unfold unl
    rw [List.filter_filter]
    refine List.filter_congr fun k _ => ?_
    by_cases h : k = j
    · subst h
      simp [hlt]
    · rw [getD_set_ne true (fun e => h e.symm)]
      simp [h]
  rw [this, List.length_filter_lt_length_iff_exists]
  exact ⟨j, List.mem_filter.2 ⟨List.mem_range.2 hjn, by rw [hj]; rfl⟩, by simp⟩

theorem ready_all {listed : Array Bool} (hed : edgesOk ops.toList 0 = true) (hsz : listed.size = ops.size) (hr : Region.ready .any ops listed = []) : ∀ k, k < ops.size → Lof listed k := by
  intro k
  induction k using Nat.strongRecOn with
  | ind k ih =>
    intro hk
    refine Classical.byContradiction fun hn => ?_
    have hko := Array.getElem?_eq_getElem hk
    have : k ∈ Region.ready .any ops listed := by
      rw [mem_ready]
      refine ⟨?_, _, hko, fun e he hb => ?_⟩
      · unfold Lof at hn
        have hlt : k < listed.size := by omega
        simp only [Array.getD_eq_getD_getElem?, Array.getElem?_eq_getElem hlt, Option.getD_some] at hn ⊢
        simpa using hn
      · have h1 := edgesOk_spec ops.toList 0 hed k _ (by rw [Array.getElem?_toList]; exact hko) e he hb
        exact ih e.on (by omega) (by omega)
    rw [hr] at this
    cases this

theorem draw_any (T : Trace P c N ops E S) (hf0 : Fresh ρ0 (S 0) (S ops.size)) (hin : In A (S 0) (S ops.size)) {F : Fence} (hF : Wide F) (n : Nat) (Q : Exit → Act → World → Prop)
    (hQ : ∀ L a w ρ eS, (∀ k, k < ops.size → L k) → Inv P B0 A N ops E S ρ0 w0 ds L a w ρ eS → Q .normal a w) :
    ∀ (fuel : Nat) (listed : Array Bool) (a : Act) (w : World) (ρ : Rho) (eS : NT D AV), listed.size = ops.size → (unl ops.size listed).length ≤ fuel → Inv P B0 A N ops E S ρ0 w0 ds (Lof listed) a w ρ eS → wpAnyIn F n P .any ops Q fuel listed a w := by
  intro fuel
  induction fuel with
  | zero =>
    intro listed a w ρ eS hsz hlen I
    have hr : Region.ready .any ops listed = [] := by
      cases h : Region.ready .any ops listed with
      | nil => rfl
      | cons j r =>
        have hj : j ∈ Region.ready .any ops listed := by rw [h]; simp
        obtain ⟨h1, o, ho, _⟩ := mem_ready.1 hj
        have : j ∈ unl ops.size listed := List.mem_filter.2 ⟨List.mem_range.2 (Array.getElem?_eq_some_iff.1 ho).1, by rw [h1]; rfl⟩
        rw [List.length_eq_zero_iff.1 (Nat.le_zero.1 hlen)] at this
        cases this
    exact ⟨hr, hQ _ a w ρ eS (ready_all T.edges hsz hr) I⟩
  | succ fuel ih =>
    intro listed a w ρ eS hsz hlen I
    refine ⟨fun hr => hQ _ a w ρ eS (ready_all T.edges hsz hr) I, fun j hj => ?_⟩
    obtain ⟨hjl, o, hjo, hed⟩ := mem_ready.1 hj
    have hjn : j < ops.size := (Array.getElem?_eq_some_iff.1 hjo).1
    have hjs : j < listed.size := by omega
    have hn : ¬ Lof listed j := by
      unfold Lof
      simp only [Array.getD_eq_getD_getElem?, Array.getElem?_eq_getElem hjs, Option.getD_some] at hjl ⊢
      simpa using hjl
    have hed' : ∀ e ∈ o.after, Region.binds .any e = true → Lof listed e.on := hed
    have on : ∀ {a' : Act} {w' : World} {ρ' : Rho} {eS' : NT D AV}, Inv P B0 A N ops E S ρ0 w0 ds (fun k => Lof listed k ∨ k = j) a' w' ρ' eS' → wpAnyIn F n P .any ops Q fuel (listed.setIfInBounds j true) a' w' := fun {a' w' ρ' eS'} I' => by
      refine ih (listed.setIfInBounds j true) a' w' ρ' eS' (by simp [hsz]) ?_ (by rw [Lof_set hjs]; exact I')
      have := unl_set hjn hjl
      omega
    have hA0 : ∀ id, (S 0).nx ≤ id → A id := fun id h => hin id (.inr h)
    have hg := I.guard T hjo hn hed'
    have hok := guard_ok I.env ops o
    unfold wpOpIn
    simp only [hjo]
    obtain ⟨logf, _, h⟩ := T.log
    rcases h j o hjo with ⟨v, mr, r, _⟩ | sk
    · rw [hok.1 (by rw [← hg]; exact r.gd)]
      simp only [if_true]
      have Ft := T.foot hin hjo r
      have wfj := T.wf (Nat.le_of_lt hjn)
      have hHs : (S (j + 1)).H = mr.H ∧ (S (j + 1)).nx = mr.nx ∧ (S (j + 1)).dfs = mr.dfs := by rw [r.hm]; exact ⟨rfl, rfl, rfl⟩
      have hfr : Fresh ρ ⟨(S j).H, (S j).nx, inf, inf, (S j).dfs⟩ mr := fun id h1 h2 => I.fresh T hf0 hjn hn id h1 (by rw [hHs.2.1]; exact h2)
      refine (T.opRun hjo r).run eS (I.alike T hjo hn hed') B0 (fun id => (id < (S j).nx ∧ Tf (single o.op) mr id) ∨ (S j).nx ≤ id) N ρ a w ⟨wfj.gnx, wfj.cap, wfj.dead⟩ (fun id h1 h2 => .inl ⟨h1, h2⟩) (fun id h1 => .inr h1) (I.rel T hf0 hjo hn hed' Ft) I.env hfr F hF n _ Q fun x w' ρ' hv hp hd => ?_
      exact on (I.next T hf0 hA0 hjo hn hed' Ft (hp.marks rfl rfl hHs.1 hHs.2.1) (hHs.2.2.trans hd) hv r.he)
    · rw [hok.2 (by rw [← hg]; exact sk.gd)]
      simp only [Bool.false_eq_true, if_false]
      refine ⟨fun f _ => hF.fn f, ?_⟩
      have Ft : Foot A ops S j (fun _ => False) (fun _ => False) := by
        refine ⟨fun id _ _ => ?_, fun _ _ h => h, fun _ _ h => h.elim, fun _ _ h => h.elim, fun _ _ _ _ _ _ h => h.elim⟩
        unfold Same; rw [sk.hm]
      have hp : Post P B0 (fun id => (id < (S j).nx ∧ False) ∨ (S j).nx ≤ id) (fun _ => False) ρ (S j) w ρ (S (j + 1)) w := by
        rw [sk.hm]
        exact Post.refl (T.wf (Nat.le_of_lt hjn)) (I.rel T hf0 hjo hn hed' Ft)
      exact on (I.next T hf0 hA0 hjo hn hed' Ft hp (by rw [sk.hm]) (AR.undef ρ) sk.he)

theorem Inv.init (hr : Rel P B0 A ρ0 (S 0).H w0) (he : ENV ρ0 N D (E 0) a.tmps) (hd : a.defers = ds) : Inv P B0 A N ops E S ρ0 w0 ds (fun _ => False) a w0 ρ0 (E 0) where
  cl := fun _ h => h.elim
  env := he
  tm := fun t _ => ⟨0, Nat.zero_le _, rfl, fun _ _ h => h.elim, fun k _ _ h => by omega⟩
  defers := hd
  dfs := fun _ _ h => h.elim
  ext := fun _ _ h => h
  dom := fun _ _ h => .inl h
  gb := hr.gb
  b0 := hr.b0
  cap := hr.cap
  lt := hr.lt
  glob := hr.glob
  own := hr.own
  val := fun id s hs hA => ⟨_, ⟨0, Nat.zero_le _, rfl, fun _ _ h => h.elim, fun k _ _ h => by omega⟩, hr.rows id s hs hA⟩
  inj := fun id id' s s' X X' hA hA' hg hg' hs hs' hX hX' hl hl' e => by
    have z : ∀ id, At S ops.size (fun _ => False) id (obj (S 0).H id) := fun id => ⟨0, Nat.zero_le _, rfl, fun _ _ h => h.elim, fun k _ _ h => by omega⟩
    rw [hX.func (z id)] at hl
    rw [hX'.func (z id')] at hl'
    exact hr.inj id id' s s' hA hA' hg hg' hs hs' hl hl' e
  kn := fun _ _ h => h.elim
  dk := fun _ _ h => h.elim
  dd := fun id s _ _ _ h => ⟨0, Nat.zero_le _, h.symm, fun _ _ h => h.elim, fun k _ _ h => by omega⟩
  size := Nat.le_refl _
  frame := fun _ _ _ => rfl
  nb := fun id s h1 h2 => by rw [h1] at h2; cases h2
  tape := rfl
  os := rfl
  out := rfl

/-- All is done. -/
theorem Inv.all (I : Inv P B0 A N ops E S ρ0 w0 ds L a w ρ eS) (T : Trace P c N ops E S) (hL : ∀ k, k < ops.size → L k) (hd0 : DR ρ0 (S 0).dfs ds) : Gone P B0 A N D ρ0 (S 0) w0 (E ops.size) (S ops.size) a w ρ := by
  have hmono := T.mono' (Nat.zero_le ops.size) (Nat.le_refl _)
  have z : ∀ id, At S ops.size L id (obj (S ops.size).H id) := fun id => ⟨_, Nat.le_refl _, rfl, fun k h1 _ h2 => by omega, fun k h1 h2 _ => absurd (hL k h1) h2⟩
  have hd : ∀ k, k ≤ ops.size → (S k).dfs = (S 0).dfs := by
    intro k
    induction k with
    | zero => intro _; rfl
    | succ k ih => intro hk; rw [I.dfs k (by omega) (hL k (by omega))]; exact ih (by omega)
  refine ⟨⟨I.env.size, I.env.cap, fun t ht => ?_⟩, ?_, ?_⟩
  · obtain ⟨τ, hτ, he, h1, _⟩ := I.tm t ht
    rw [T.setChain' ht hτ (Nat.le_refl _) fun k hk hk' => h1 k hk' (hL k hk') hk, ← he]
    exact I.env.get t ht
  · rw [hd _ (Nat.le_refl _), I.defers]
    exact hd0.mono I.ext
  · constructor
    case ext => exact I.ext
    case dom =>
      intro id s hs
      rcases I.dom id s hs with h | ⟨k, hk, _, h1, h2⟩
      · exact .inl h
      · have := (T.mono' (Nat.zero_le k) (by omega)).nx
        have := (T.mono' (show k + 1 ≤ ops.size by omega) (Nat.le_refl _)).nx
        exact .inr ⟨by omega, by omega⟩
    case nx => exact hmono.nx
    case wf => exact T.wf (Nat.le_refl _)
    case rel =>
      refine ⟨I.gb, I.b0, I.cap, I.lt, I.glob, I.own, fun id id' s s' hA hA' hg hg' hs hs' hl hl' e => I.inj id id' s s' _ _ hA hA' hg hg' hs hs' (z id) (z id') hl hl' e, fun id s hs hA => ?_⟩
      obtain ⟨X, hX, hO⟩ := I.val id s hs hA
      rw [hX.func (z id)] at hO
      exact hO
    case size => exact I.size
    case frame => exact I.frame
    case newb => exact I.nb
    case keep => exact fun id hid hW => hmono.keep T.wf0.cap id hid (by omega)
    case dead =>
      intro id hid h0
      have : ∀ k, k ≤ ops.size → obj (S k).H id = .dead := by
        intro k
        induction k with
        | zero => intro _; exact h0
        | succ k ih =>
          intro hk
          exact I.dk k (by omega) (hL k (by omega)) id (Nat.lt_of_lt_of_le hid (T.mono' (Nat.zero_le k) (by omega)).nx) (ih (by omega))
      exact this _ (Nat.le_refl _)
    case keep0 =>
      intro id hid h0
      rcases h0 with h0 | h0
      · have hn : ρ id = none := by
          cases hs : ρ id with
          | none => rfl
          | some s =>
            rcases I.dom id s hs with h | ⟨k, hk, _, h1, _⟩
            · rw [h0] at h; cases h
            · have := (T.mono' (Nat.zero_le k) (by omega)).nx; omega
        exact At.chain' (S := S) (i := 0) (Nat.zero_le _) fun k _ hk => I.kn k hk (hL k hk) id (Nat.lt_of_lt_of_le hid (T.mono' (Nat.zero_le k) (by omega)).nx) hn
      · exact hmono.glo T.wf0.cap id hid h0
    case tape => exact I.tape
    case os => exact I.os
    case out => exact I.out

theorem stepK_mono {o : Oper} {k : Nat} {e e1 : NT D AV} {m m1 : M} {logf : List Ent} (hlow : LowOK P c.low) (h : StepK P c N ops logf o k e m e1 m1) : Mono P m m1 := by
  rcases h with ⟨v, mr, r, _⟩ | sk
  · exact r.from hlow
  · rw [sk.hm]; exact Mono.refl _

theorem draw_ok (id : Nat) (ops : Array Oper) (N D : Nat) : CodeOK P (.region id ops true) N (den P N (.region id ops true) (D := D)).run := by
  have hden : (den P N (.region id ops true) (D := D)).run = iff (regOk P ops) ⟨fun c e m => (runDraw P N ops ops.toList 0).f c e m []⟩ ⟨fun _ _ _ => .fail [193]⟩ := rfl
  rw [hden, iff_eq]
  split
  · rename_i hreg
    unfold regOk at hreg
    simp only [Bool.and_eq_true] at hreg
    obtain ⟨⟨⟨h1, h2⟩, h3⟩, h4⟩ := hreg
    constructor
    · intro cx e m x e' m' hlow h
      obtain ⟨E, S, logf, _, hE, hS, hE', hS', _, _, hst⟩ := runDraw_steps ops ops.toList 0 e m [] h
      rw [← hS, ← hS']
      rw [Nat.zero_add]
      have : ∀ k, k ≤ ops.toList.length → Mono P (S 0) (S k) := by
        intro k
        induction k with
        | zero => intro _; exact Mono.refl _
        | succ k ih =>
          intro hk
          have := hst k _ (List.getElem?_eq_getElem (show k < ops.toList.length by omega))
          simp only [Nat.zero_add] at this
          exact (ih (by omega)).trans (stepK_mono hlow this)
      exact this _ (Nat.le_refl _)
    · intro cx e m x e' m' hlow h B0 A ρ a w hw hin hr he hf hdr F hF n
      obtain ⟨E, S, logf, rfl, rfl, rfl, rfl, rfl, _, hok, hst⟩ := runDraw_steps ops ops.toList 0 e m [] h
      simp only [Nat.zero_add, Array.length_toList] at hin hf hst ⊢
      have T : Trace P cx N ops E S := ⟨hlow, ⟨logf, hok, fun k o hk => hst k o (by rw [Array.getElem?_toList]; exact hk)⟩, hw, h2, h4, he.cap⟩
      refine wpIn_region_any h1 ?_
      have hr1 : Rel P B0 A ρ (S 0).H { w with drawn := w.drawn + 1 } := ⟨hr.gb, hr.b0, hr.cap, hr.lt, hr.glob, hr.own, hr.inj, hr.rows⟩
      refine draw_any (B0 := B0) (A := A) (ρ0 := ρ) (w0 := { w with drawn := w.drawn + 1 }) (ds := a.defers) T hf hin hF.wide n _ (fun L a' w' ρ' eS hL I => ?_) ops.size _ a _ ρ (E 0) (by simp) ?_ ?_
      · have g := I.all T hL hdr
        have hp := g.post
        exact ⟨ρ', rfl, g.env, g.dfs, ⟨hp.ext, hp.dom, hp.nx, hp.wf, hp.rel, hp.size, hp.frame, hp.newb, hp.keep, hp.dead, hp.keep0, hp.tape, hp.os, hp.out⟩⟩
      · unfold unl
        exact Nat.le_trans (List.length_filter_le _ _) (by simp)
      · have : Lof (Array.replicate ops.size false) = fun _ => False := by
          funext k
          apply propext
          unfold Lof
          simp only [Array.getD_eq_getD_getElem?, Array.getElem?_replicate]
          split <;> simp
        rw [this]
        exact Inv.init hr1 he rfl
  · exact fail_ok

theorem den_ok (P : Program) : DenOK P := fun N D c => (den_okL draw_ok c N D).1

end Go.CE
