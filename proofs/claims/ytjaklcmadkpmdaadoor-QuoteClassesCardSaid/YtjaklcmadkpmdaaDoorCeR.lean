/- Code put together. No program is named. -/
import Derived.Test.YtjaklcmadkpmdaaDoorCeQ
import Derived.LoopNIn
noncomputable section
namespace Go.CE
open Go

variable {P : Program} {B0 : Nat} {A W W' : Nat → Prop} {ρ ρ' ρ'' : Rho} {m m' m'' : M} {w w' w'' : World}

/-! ### Scopes, whatever jumps there are -/

section
variable {b : Frame} {a : Act} {k : List Item} {cs : List Frame}

theorem stepR_scope {c : Code} : step P (lone (b.atR a (.code (.scope c) :: k)) cs w) = .next (lone (b.atR a (.code c :: .inScope c :: k)) cs w) :=
  step_lone_go (by simp [stepG, stepG.exec, Frame.atR])

theorem stepR_inScope {c : Code} : step P (lone (b.atR a (.inScope c :: k)) cs w) = .next (lone (b.atR a k) cs w) :=
  step_lone_go (by simp [stepG, stepG.exec, Frame.atR])
end

/-- So many pieces of a scope, each begun at a label. -/
def scopeRounds (F : Fence) (n : Nat) (P : Program) (c : Code) (Q : Exit → Act → World → Prop) : Nat → Code → Act → World → Prop
  | 0, _, _, _ => False
  | j + 1, x, a, w => x.wpIn F n P (fun ex a w => match ex with
      | .goto l => (match findLabel c l with
        | some rest => scopeRounds F n P c Q j rest a w
        | none => Q (.goto l) a w)
      | e => Q e a w) a w

theorem wpIn_scope {F : Fence} {n : Nat} {Q : Exit → Act → World → Prop} {a : Act} {c : Code} (j : Nat) (h : scopeRounds F n P c Q j c a w) : (Code.scope c).wpIn F n P Q a w := by
  intro b k cs hro hb hr
  have key : ∀ j x a w, scopeRounds F n P c Q j x a w →
      ∃ e a' w', Q e a' w' ∧ ArrivesIn (Machine.fenced P F) P (lone (b.atR a (.code x :: .inScope c :: k)) cs w) b k cs e a' w' := by
    intro j
    induction j with
    | zero => intro x a w h; exact h.elim
    | succ j ih =>
      intro x a w h
      obtain ⟨e, a₁, w₁, hq, harr⟩ := h b (.inScope c :: k) cs hro hb hr
      cases e with
      | normal => exact ⟨.normal, a₁, w₁, hq, StepsIn.trans harr (.one (fenced_calm hb hr rfl) stepR_inScope)⟩
      | exit id =>
        exact ⟨.exit id, a₁, w₁, hq, fun k' hk => harr.1 k' (by simpa [exitTo] using hk), fun hr' hk => harr.2 hr' (by simpa [exitTo] using hk)⟩
      | goto l =>
        simp only at hq
        cases hfl : findLabel c l with
        | some rest =>
          rw [hfl] at hq
          obtain ⟨e₂, a₂, w₂, hq₂, harr₂⟩ := ih rest a₁ w₁ hq
          exact ⟨e₂, a₂, w₂, hq₂, .of_steps (harr.1 _ (by simp [gotoIn, hfl])) harr₂⟩
        | none =>
          rw [hfl] at hq
          exact ⟨.goto l, a₁, w₁, hq, fun k' hk => harr.1 k' (by simpa [gotoIn, hfl] using hk), fun hr' hk => harr.2 hr' (by simpa [gotoIn, hfl] using hk)⟩
      | ret => exact ⟨_, a₁, w₁, hq, harr⟩
      | panic ch => exact ⟨_, a₁, w₁, hq, harr⟩
      | outgrown => exact ⟨_, a₁, w₁, hq, harr⟩
  obtain ⟨e, a', w', hq, harr⟩ := key j c a w h
  exact ⟨e, a', w', hq, .of_steps (.one (fenced_calm hb hr rfl) stepR_scope) harr⟩

/-! ### What code is, put together -/

theorem CodeOK.on {c : Code} {N D : Nat} {d : Dn D} (h : CodeOK P c N d) {cx : Ctx} {e : NT D AV} {x : Ex} {e' : NT D AV} (hc : LowOK P cx.low) (hd : d.f cx e m = .ok x e' m') {a : Act}
    (hw : WF P m) (hin : In A m m') (hr : Rel P B0 A ρ m.H w) (he : ENV ρ N D e a.tmps) (hf : Fresh ρ m m') (hdr : DR ρ m.dfs a.defers) {F : Fence} (hF : FOK ρ cx.rnd F) (n : Nat)
    {Q : Exit → Act → World → Prop} (hQ : ∀ a' w' ρ', Gone P B0 A N D ρ m w e' m' a' w' ρ' → Q (exOf x) a' w') : c.wpIn F n P Q a w := by
  refine wpIn_mono (h.wp cx e m x e' m' hc hd B0 A ρ a w hw hin hr he hf hdr F hF n) ?_
  rintro ex a' w' ⟨ρ', rfl, hg⟩
  exact hQ a' w' ρ' hg

theorem onEx_ok {D : Nat} {r : R D} {k : Ex → NT D AV → M → R D} {x : Ex} {e' : NT D AV} (h : onEx r .fail k = .ok x e' m') : ∃ x1 e1 m1, r = .ok x1 e1 m1 ∧ k x1 e1 m1 = .ok x e' m' := by
  cases r with
  | fail w => cases h
  | ok x1 e1 m1 => exact ⟨x1, e1, m1, rfl, h⟩

/-- Code that ends at once. -/
theorem leaf_ok' {c : Code} {N D : Nat} (x0 : Ex) (h : ∀ (F : Fence) (n : Nat) (Q : Exit → Act → World → Prop) (a : Act) (w : World), Q (exOf x0) a w → c.wpIn F n P Q a w) : CodeOK P c N (⟨fun _ e m => .ok x0 e m⟩ : Dn D) := by
  refine ⟨fun cx e m x e' m' _ hd => ?_, fun cx e m x e' m' hc hd B0 A ρ a w hw hin hr he hf hdr F hF n => ?_⟩
  · have hd : R.ok x0 e m = .ok x e' m' := hd
    cases hd; exact Mono.refl _
  · have hd : R.ok x0 e m = .ok x e' m' := hd
    cases hd
    exact h F n _ a w ⟨ρ, rfl, he, hdr, Post.refl hw hr⟩

theorem skip_ok {N D : Nat} : CodeOK P .skip N (⟨fun _ e m => .ok .norm e m⟩ : Dn D) := leaf_ok' .norm fun _ _ _ _ _ h => wpIn_skip h
theorem label_ok {l N D : Nat} : CodeOK P (.label l) N (⟨fun _ e m => .ok .norm e m⟩ : Dn D) := leaf_ok' .norm fun _ _ _ _ _ h => wpIn_label h
theorem exit_ok {id N D : Nat} : CodeOK P (.exit id) N (⟨fun _ e m => .ok (.exit id) e m⟩ : Dn D) := leaf_ok' (.exit id) fun _ _ _ _ _ h => wpIn_exit h
theorem goto_ok {l N D : Nat} : CodeOK P (.goto l) N (⟨fun _ e m => .ok (.goto l) e m⟩ : Dn D) := leaf_ok' (.goto l) fun _ _ _ _ _ h => wpIn_goto h
theorem ret_ok {N D : Nat} : CodeOK P .ret N (⟨fun _ e m => .ok .ret e m⟩ : Dn D) := leaf_ok' .ret fun _ _ _ _ _ h => wpIn_ret h
theorem fail_ok {c : Code} {N D : Nat} {k : List Nat} : CodeOK P c N (⟨fun _ _ _ => .fail k⟩ : Dn D) := ⟨fun _ _ _ _ _ _ _ h => (by cases h), fun _ _ _ _ _ _ _ h => (by cases h)⟩

theorem thenX_ok {D : Nat} {k : NT D AV → M → R D} {x1 x : Ex} {e1 e' : NT D AV} {m1 : M} (h : thenX k x1 e1 m1 = .ok x e' m') : (x1 = .norm ∧ k e1 m1 = .ok x e' m') ∨ (x1 ≠ .norm ∧ x = x1 ∧ e' = e1 ∧ m' = m1) := by
  cases x1 with
  | norm => exact .inl ⟨rfl, h⟩
  | exit id =>
    have h : R.ok (.exit id) e1 m1 = .ok x e' m' := h
    cases h; exact .inr ⟨fun h => (by cases h), rfl, rfl, rfl⟩
  | goto l =>
    have h : R.ok (.goto l) e1 m1 = .ok x e' m' := h
    cases h; exact .inr ⟨fun h => (by cases h), rfl, rfl, rfl⟩
  | ret =>
    have h : R.ok .ret e1 m1 = .ok x e' m' := h
    cases h; exact .inr ⟨fun h => (by cases h), rfl, rfl, rfl⟩

theorem then_other {K : Act → World → Prop} {Q : Exit → Act → World → Prop} {x : Ex} (hx : x ≠ .norm) {a : Act} (h : Q (exOf x) a w) : Exit.then K Q (exOf x) a w := by
  cases x with
  | norm => exact absurd rfl hx
  | _ => exact h

theorem seq_ok {c1 c2 : Code} {N D : Nat} {d1 d2 : Dn D} (h1 : CodeOK P c1 N d1) (h2 : CodeOK P c2 N d2) : CodeOK P (.seq c1 c2) N (seqD d1 d2) := by
  refine ⟨fun cx e m x e' m' hc hd => ?_, fun cx e m x e' m' hc hd B0 A ρ a w hw hin hr he hf hdr F hF n => ?_⟩
  · obtain ⟨x1, e1, m1, ha, hb⟩ := onEx_ok hd
    have mo1 := h1.mono cx e m x1 e1 m1 hc ha
    rcases thenX_ok hb with ⟨_, hb⟩ | ⟨_, _, _, rfl⟩
    · exact mo1.trans (h2.mono cx e1 m1 x e' m' hc hb)
    · exact mo1
  · obtain ⟨x1, e1, m1, ha, hb⟩ := onEx_ok hd
    have mo1 := h1.mono cx e m x1 e1 m1 hc ha
    refine wpIn_seq ?_
    rcases thenX_ok hb with ⟨rfl, hb⟩ | ⟨hx, rfl, rfl, rfl⟩
    · have mo2 := h2.mono cx e1 m1 x e' m' hc hb
      refine h1.on hc ha hw (hin.first mo2) hr he (hf.first mo2) hdr hF n fun a1 w1 ρ1 g1 => ?_
      exact h2.on hc hb g1.post.wf (hin.second mo1) g1.post.rel g1.env (hf.second mo1 g1.post) g1.dfs (hF.mono g1.post.ext) n fun a2 w2 ρ2 g2 => ⟨ρ2, rfl, g2.behind g1.post mo2 hf⟩
    · exact h1.on hc ha hw hin hr he hf hdr hF n fun a1 w1 ρ1 g1 => then_other hx ⟨ρ1, rfl, g1⟩

theorem cond_ok {x : Operand} {c1 c2 : Code} {N D : Nat} {d1 d2 : Dn D} (h1 : CodeOK P c1 N d1) (h2 : CodeOK P c2 N d2) : CodeOK P (.cond x c1 c2) N (condD P x d1 d2) := by
  have split : ∀ {cx : Ctx} {e : NT D AV} {m : M} {y : Ex} {e' : NT D AV} {m' : M}, (condD P x d1 d2).f cx e m = .ok y e' m' → ∃ t : Bool, (evO P x).f e = .c (.bool t) ∧ ((if t then d1 else d2).f cx e m) = .ok y e' m' := fun {cx e m y e' m'} h => by
    have h : condK ((evO P x).f e) (d1.f cx e m) (d2.f cx e m) = .ok y e' m' := h
    unfold condK at h
    split at h
    · rename_i t ht
      refine ⟨t, ht, ?_⟩
      cases t <;> exact h
    · cases h
  refine ⟨fun cx e m x e' m' hc hd => ?_, fun cx e m y e' m' hc hd B0 A ρ a w hw hin hr he hf hdr F hF n => ?_⟩
  · obtain ⟨t, _, h⟩ := split hd
    cases t
    · exact h2.mono _ _ _ _ _ _ hc h
    · exact h1.mono _ _ _ _ _ _ hc h
  · obtain ⟨t, ht, h⟩ := split hd
    have hx := he.eval hr.glob x
    rw [ht] at hx
    have hx : a.eval x = .bool t := hx
    refine wpIn_cond hx ?_
    cases t
    · exact h2.wp cx e m y e' m' hc h B0 A ρ a w hw hin hr he hf hdr F hF n
    · exact h1.wp cx e m y e' m' hc h B0 A ρ a w hw hin hr he hf hdr F hF n

theorem block_ok {id : Nat} {c : Code} {N D : Nat} {d : Dn D} (h : CodeOK P c N d) : CodeOK P (.block id c) N (blockD id d) := by
  have same : ∀ {x1 : Ex} {e1 : NT D AV} {m1 : M} {x : Ex} {e' : NT D AV} {m' : M}, blockX id x1 e1 m1 = .ok x e' m' → e' = e1 ∧ m' = m1 ∧ ∀ (Q : Exit → Act → World → Prop) (a : Act) (w : World), Q (exOf x) a w → Exit.inBlock id Q (exOf x1) a w := fun {x1 e1 m1 x e' m'} h => by
    unfold blockX at h
    split at h
    · cases h; exact ⟨rfl, rfl, fun Q a w hq => hq⟩
    · rename_i i
      rw [iff_eq] at h
      split at h
      · rename_i hi
        have hi := Nat.eq_of_beq_eq_true hi
        cases h
        exact ⟨rfl, rfl, fun Q a w hq => by simp only [exOf, Exit.inBlock, hi, if_true]; exact hq⟩
      · rename_i hi
        have hi : i ≠ id := fun e => hi (by rw [e]; exact Nat.beq_refl id)
        cases h
        exact ⟨rfl, rfl, fun Q a w hq => by simp only [exOf, Exit.inBlock, hi, if_false]; exact hq⟩
    · cases h; exact ⟨rfl, rfl, fun Q a w hq => hq⟩
    · cases h; exact ⟨rfl, rfl, fun Q a w hq => hq⟩
  refine ⟨fun cx e m x e' m' hc hd => ?_, fun cx e m x e' m' hc hd B0 A ρ a w hw hin hr he hf hdr F hF n => ?_⟩
  · obtain ⟨x1, e1, m1, ha, hb⟩ := onEx_ok hd
    obtain ⟨rfl, rfl, _⟩ := same hb
    exact h.mono _ _ _ _ _ _ hc ha
  · obtain ⟨x1, e1, m1, ha, hb⟩ := onEx_ok hd
    obtain ⟨rfl, rfl, hs⟩ := same hb
    exact wpIn_block (h.on hc ha hw hin hr he hf hdr hF n fun a1 w1 ρ1 g1 => hs _ _ _ ⟨ρ1, rfl, g1⟩)

def loopG {D : Nat} (a : Dn D) (c : Ctx) (k : Nat) : NT D AV → M → R D :=
  Nat.rec (motive := fun _ => NT D AV → M → R D) (fun _ _ => .fail [180]) (fun _ ih e m => onEx (a.f c e m) .fail (thenX ih)) k

theorem loop_ok {c : Code} {N D : Nat} {d : Dn D} (h : CodeOK P c N d) : CodeOK P (.loop c) N (loopD d) := by
  have mono : ∀ (cx : Ctx), LowOK P cx.low → ∀ (k : Nat) (e : NT D AV) (m : M) (x : Ex) (e' : NT D AV) (m' : M), loopG d cx k e m = .ok x e' m' → Mono P m m' := by
    intro cx hc k
    induction k with
    | zero => intro e m x e' m' h; cases h
    | succ k ih =>
      intro e m x e' m' hd
      obtain ⟨x1, e1, m1, ha, hb⟩ := onEx_ok (k := thenX (loopG d cx k)) hd
      have mo1 := h.mono cx e m x1 e1 m1 hc ha
      rcases thenX_ok hb with ⟨_, hb⟩ | ⟨_, _, _, rfl⟩
      · exact mo1.trans (ih _ _ _ _ _ hb)
      · exact mo1
  refine ⟨fun cx e m x e' m' hc hd => mono cx hc cx.lf e m x e' m' hd, fun cx e m x e' m' hc hd B0 A ρ a w hw hin hr he hf hdr F hF n => wpIn_loop_rounds cx.lf ?_⟩
  have key : ∀ (k : Nat) (e : NT D AV) (m : M) (x : Ex) (e' : NT D AV) (m' : M), loopG d cx k e m = .ok x e' m' → ∀ (ρ : Rho) (a : Act) (w : World), WF P m → In A m m' → Rel P B0 A ρ m.H w → ENV ρ N D e a.tmps → Fresh ρ m m' → DR ρ m.dfs a.defers → FOK ρ cx.rnd F →
      ∀ (Q : Exit → Act → World → Prop), (∀ a' w' ρ', Gone P B0 A N D ρ m w e' m' a' w' ρ' → Q (exOf x) a' w') → Code.roundsIn F n P c Q k a w := by
    intro k
    induction k with
    | zero => intro e m x e' m' h; cases h
    | succ k ih =>
      intro e m x e' m' hd ρ a w hw hin hr he hf hdr hF Q hQ
      obtain ⟨x1, e1, m1, ha, hb⟩ := onEx_ok (k := thenX (loopG d cx k)) hd
      have mo1 := h.mono cx e m x1 e1 m1 hc ha
      rw [roundsIn_succ]
      rcases thenX_ok hb with ⟨rfl, hb⟩ | ⟨hx, rfl, rfl, rfl⟩
      · have mo2 := mono cx hc k _ _ _ _ _ hb
        refine h.on hc ha hw (hin.first mo2) hr he (hf.first mo2) hdr hF n fun a1 w1 ρ1 g1 => ?_
        exact ih e1 m1 x e' m' hb ρ1 a1 w1 g1.post.wf (hin.second mo1) g1.post.rel g1.env (hf.second mo1 g1.post) g1.dfs (hF.mono g1.post.ext) Q fun a2 w2 ρ2 g2 => hQ a2 w2 ρ2 (g2.behind g1.post mo2 hf)
      · exact h.on hc ha hw hin hr he hf hdr hF n fun a1 w1 ρ1 g1 => then_other hx (hQ a1 w1 ρ1 g1)
  exact key cx.lf e m x e' m' hd ρ a w hw hin hr he hf hdr hF _ fun a' w' ρ' g => ⟨ρ', rfl, g⟩

/-- Labels, and what is behind them. -/
def LabOK (P : Program) (c : Code) (N : Nat) {D : Nat} (lab : Nat → Option (Dn D)) : Prop := ∀ l, match lab l, findLabel c l with
  | some d, some rest => CodeOK P rest N d
  | none, none => True
  | _, _ => False

def scopeG {D : Nat} (lab : Nat → Option (Dn D)) (c : Ctx) (k : Nat) : Dn D → NT D AV → M → R D :=
  Nat.rec (motive := fun _ => Dn D → NT D AV → M → R D) (fun _ _ _ => .fail [181]) (fun _ ih a e m => onEx (a.f c e m) .fail (scopeX lab ih)) k

theorem scopeX_ok {D : Nat} {lab : Nat → Option (Dn D)} {k : Dn D → NT D AV → M → R D} {x1 x : Ex} {e1 e' : NT D AV} {m1 : M} (h : scopeX lab k x1 e1 m1 = .ok x e' m') :
    (∃ l d, x1 = .goto l ∧ lab l = some d ∧ k d e1 m1 = .ok x e' m') ∨ ((∀ l, x1 = .goto l → lab l = none) ∧ x = x1 ∧ e' = e1 ∧ m' = m1) := by
  unfold scopeX at h
  split at h
  · rename_i l
    split at h
    · rename_i d hd; exact .inl ⟨l, d, rfl, hd, h⟩
    · rename_i hd; cases h; exact .inr ⟨fun l' hl => by cases hl; exact hd, rfl, rfl, rfl⟩
  all_goals (cases h; exact .inr ⟨fun l' hl => (by cases hl), rfl, rfl, rfl⟩)

theorem scope_ok {c : Code} {N D : Nat} {d : Dn D} {lab : Nat → Option (Dn D)} (h : CodeOK P c N d) (hl : LabOK P c N lab) : CodeOK P (.scope c) N (scopeD d lab) := by
  have lok : ∀ {l : Nat} {d : Dn D}, lab l = some d → ∃ rest, findLabel c l = some rest ∧ CodeOK P rest N d := fun {l d} hd => by
    have := hl l
    rw [hd] at this
    cases hf : findLabel c l with
    | none => rw [hf] at this; exact this.elim
    | some rest => rw [hf] at this; exact ⟨rest, rfl, this⟩
  have lno : ∀ {l : Nat}, lab l = none → findLabel c l = none := fun {l} hd => by
    have := hl l
    rw [hd] at this
    cases hf : findLabel c l with
    | none => rfl
    | some rest => rw [hf] at this; exact this.elim
  have mono : ∀ (cx : Ctx), LowOK P cx.low → ∀ (k : Nat) (x0 : Code) (d : Dn D), CodeOK P x0 N d → ∀ (e : NT D AV) (m : M) (x : Ex) (e' : NT D AV) (m' : M), scopeG lab cx k d e m = .ok x e' m' → Mono P m m' := by
    intro cx hc k
    induction k with
    | zero => intro x0 d h0 e m x e' m' h; cases h
    | succ k ih =>
      intro x0 d h0 e m x e' m' hd
      obtain ⟨x1, e1, m1, ha, hb⟩ := onEx_ok (k := scopeX lab (scopeG lab cx k)) hd
      have mo1 := h0.mono cx e m x1 e1 m1 hc ha
      rcases scopeX_ok hb with ⟨l, d', _, hld, hb⟩ | ⟨_, _, _, rfl⟩
      · obtain ⟨rest, _, hrest⟩ := lok hld
        exact mo1.trans (ih rest d' hrest _ _ _ _ _ hb)
      · exact mo1
  refine ⟨fun cx e m x e' m' hc hd => mono cx hc cx.lf c d h e m x e' m' hd, fun cx e m x e' m' hc hd B0 A ρ a w hw hin hr he hf hdr F hF n => wpIn_scope cx.lf ?_⟩
  have key : ∀ (k : Nat) (x0 : Code) (d : Dn D), CodeOK P x0 N d → ∀ (e : NT D AV) (m : M) (x : Ex) (e' : NT D AV) (m' : M), scopeG lab cx k d e m = .ok x e' m' → ∀ (ρ : Rho) (a : Act) (w : World), WF P m → In A m m' → Rel P B0 A ρ m.H w → ENV ρ N D e a.tmps → Fresh ρ m m' → DR ρ m.dfs a.defers → FOK ρ cx.rnd F →
      ∀ (Q : Exit → Act → World → Prop), (∀ a' w' ρ', Gone P B0 A N D ρ m w e' m' a' w' ρ' → Q (exOf x) a' w') → scopeRounds F n P c Q k x0 a w := by
    intro k
    induction k with
    | zero => intro x0 d h0 e m x e' m' h; cases h
    | succ k ih =>
      intro x0 d h0 e m x e' m' hd ρ a w hw hin hr he hf hdr hF Q hQ
      obtain ⟨x1, e1, m1, ha, hb⟩ := onEx_ok (k := scopeX lab (scopeG lab cx k)) hd
      have mo1 := h0.mono cx e m x1 e1 m1 hc ha
      show x0.wpIn F n P _ a w
      rcases scopeX_ok hb with ⟨l, d', rfl, hld, hb⟩ | ⟨hno, rfl, rfl, rfl⟩
      · obtain ⟨rest, hfl, hrest⟩ := lok hld
        have mo2 := mono cx hc k rest d' hrest _ _ _ _ _ hb
        refine h0.on hc ha hw (hin.first mo2) hr he (hf.first mo2) hdr hF n fun a1 w1 ρ1 g1 => ?_
        simp only [exOf, hfl]
        exact ih rest d' hrest e1 m1 x e' m' hb ρ1 a1 w1 g1.post.wf (hin.second mo1) g1.post.rel g1.env (hf.second mo1 g1.post) g1.dfs (hF.mono g1.post.ext) Q fun a2 w2 ρ2 g2 => hQ a2 w2 ρ2 (g2.behind g1.post mo2 hf)
      · refine h0.on hc ha hw hin hr he hf hdr hF n fun a1 w1 ρ1 g1 => ?_
        have := hQ a1 w1 ρ1 g1
        cases x with
        | goto l => simp only [exOf, lno (hno l rfl)]; exact this
        | _ => exact this
  exact key cx.lf c d h e m x e' m' hd ρ a w hw hin hr he hf hdr hF _ fun a' w' ρ' g => ⟨ρ', rfl, g⟩

theorem noLab_ok {c : Code} {N D : Nat} (h : ∀ l, findLabel c l = none) : LabOK P c N (noLab (D := D)) := fun l => by
  rw [h l]
  exact trivial

theorem seqLab_ok {c1 c2 : Code} {N D : Nat} {d2 : Dn D} {l1 l2 : Nat → Option (Dn D)} (h1 : LabOK P c1 N l1) (h2 : LabOK P c2 N l2) (hd : CodeOK P c2 N d2) : LabOK P (.seq c1 c2) N (fun l => match l1 l with
    | some d => some (seqD d d2)
    | none => l2 l) := fun l => by
  have a1 := h1 l
  have a2 := h2 l
  simp only [findLabel]
  cases e1 : l1 l with
  | some d =>
    rw [e1] at a1
    cases f1 : findLabel c1 l with
    | none => rw [f1] at a1; exact a1.elim
    | some rest => rw [f1] at a1; exact seq_ok a1 hd
  | none =>
    rw [e1] at a1
    cases f1 : findLabel c1 l with
    | some rest => rw [f1] at a1; exact a1.elim
    | none => exact a2

theorem labelLab_ok {l N D : Nat} : LabOK P (.label l) N (fun l' => if l == l' then some (⟨fun _ e m => .ok .norm e m⟩ : Dn D) else none) := fun l' => by
  simp only [findLabel]
  cases h : (l == l') with
  | true => exact skip_ok
  | false => exact trivial

end Go.CE
