/- A region whose order is drawn: one step more. No program is named. -/
import Derived.Test.YtjaklcmadkpmdaaDoorCeX
noncomputable section
namespace Go.CE
open Go

variable {P : Program} {B0 : Nat} {A : Nat → Prop} {c : Ctx} {N : Nat} {D : Nat} {ops : Array Oper} {E : Nat → NT D AV} {S : Nat → M} {ρ0 ρ ρ' : Rho} {w0 w w' : World} {ds : List Deferred} {L : Nat → Prop} {a : Act} {eS : NT D AV} {j : Nat} {o : Oper} {Tj Wj : Nat → Prop}

theorem get_putE_self {t : Nat} (hN : N ≤ capN D) (ht : t < N) (e : NT D AV) (v : AV) : (getN D t).f (putE N (some t) e v) = v := by
  unfold putE putD
  simp only [iff_ble]
  rw [if_pos (Nat.succ_le_of_lt ht), setN_eq]
  show (getN D t).f (updN D t e v) = v
  rw [get_upd D t t e v (by omega) (by omega), if_pos rfl]

theorem get_putE_big {t : Nat} (ht : ¬ t < N) (e : NT D AV) (v : AV) : putE N (some t) e v = e := by
  unfold putE putD
  simp only [iff_ble]
  rw [if_neg (fun h => ht (Nat.lt_of_succ_le h))]
  rfl

theorem Inv.fresh (I : Inv P B0 A N ops E S ρ0 w0 ds L a w ρ eS) (T : Trace P c N ops E S) (hf0 : Fresh ρ0 (S 0) (S ops.size)) (hjn : j < ops.size) (hn : ¬ L j) : Fresh ρ (S j) (S (j + 1)) := by
  intro id h1 h2
  cases hs : ρ id with
  | none => rfl
  | some s =>
    have a0 : (S 0).nx ≤ (S j).nx := (T.mono' (Nat.zero_le j) (by omega)).nx
    have a1 : (S (j + 1)).nx ≤ (S ops.size).nx := (T.mono' (show j + 1 ≤ ops.size by omega) (Nat.le_refl _)).nx
    rcases I.dom id s hs with h3 | ⟨k', hk', hL', h4, h5⟩
    · rw [hf0 id (by omega) (by omega)] at h3; cases h3
    · have hne : k' ≠ j := fun e => hn (e ▸ hL')
      rcases Nat.lt_or_ge k' j with h6 | h6
      · have := (T.mono' (show k' + 1 ≤ j by omega) (by omega)).nx; omega
      · have := (T.mono' (show j + 1 ≤ k' by omega) (by omega)).nx; omega

theorem Inv.next (I : Inv P B0 A N ops E S ρ0 w0 ds L a w ρ eS) (T : Trace P c N ops E S) (hf0 : Fresh ρ0 (S 0) (S ops.size)) (_hA0 : ∀ id, (S 0).nx ≤ id → A id) (hj : ops[j]? = some o) (hn : ¬ L j) (hed : ∀ e ∈ o.after, Region.binds .any e = true → L e.on)
    (Ft : Foot A ops S j Tj Wj) {x : Value} {v : AV} (hp : Post P B0 (fun id => (id < (S j).nx ∧ Tj id) ∨ (S j).nx ≤ id) Wj ρ (S j) w ρ' (S (j + 1)) w') (hdfs : (S (j + 1)).dfs = (S j).dfs) (hv : AR ρ' v x) (hE : E (j + 1) = putE N o.dst (E j) v) :
    Inv P B0 A N ops E S ρ0 w0 ds (fun k => L k ∨ k = j) (a.put o.dst x) w' ρ' (putE N o.dst eS v) := by
  have hjn : j < ops.size := (Array.getElem?_eq_some_iff.1 hj).1
  have wfj := T.wf (Nat.le_of_lt hjn)
  have hfr := I.fresh T hf0 hjn hn
  have lv : ∀ id s, ρ id = some s → Live (S j).H id → id < (S j).nx := fun id s hs hl => by
    rcases Nat.lt_or_ge id (S j).nx with h | h
    · exact h
    · exact absurd (wfj.dead id h (I.cap id s hs)) hl
  -- old ones that are not looked at stay
  have stay : ∀ id s, ρ id = some s → ¬ (id < (S j).nx ∧ Tj id) → Same S j id := fun id s hs hT => by
    rcases Nat.lt_or_ge id (S j).nx with h | h
    · exact Ft.keep id h fun hW => hT ⟨h, Ft.sub id h hW⟩
    · rcases Nat.lt_or_ge id (S (j + 1)).nx with h' | h'
      · rw [hfr id h h'] at hs; cases hs
      · exact T.beyond hjn (I.cap id s hs) h'
  have now := fun {id : Nat} {s : Seg} (hs : ρ id = some s) (hT : id < (S j).nx ∧ Tj id) => I.atNow T hf0 hj hn hed Ft hs hT.1 hT.2
  have newR : ∀ id s, ρ' id = some s → ρ id = none → (S j).nx ≤ id ∧ id < (S (j + 1)).nx := fun id s hs h0 => by
    rcases hp.dom id s hs with h | h
    · rw [h0] at h; cases h
    · exact h
  have atNew : ∀ id s, ρ' id = some s → ρ id = none → At S ops.size (fun k => L k ∨ k = j) id (obj (S (j + 1)).H id) := fun id s hs h0 => by
    obtain ⟨h1, h2⟩ := newR id s hs h0
    refine ⟨j + 1, by omega, rfl, fun k hk hL hle => ?_, fun k hk hL hlt => ?_⟩
    · rcases hL with hL | hL
      · exact I.kn k hk hL id (Nat.lt_of_lt_of_le h2 (T.mono' hle (by omega)).nx) h0
      · omega
    · have hne : k ≠ j := fun e => hL (.inr e)
      exact T.beyond hk (hp.rel.cap id s hs) (Nat.le_trans (T.mono' (show k + 1 ≤ j by omega) (by omega)).nx h1)
  have liveOld : ∀ id s, ρ0 id = some s → id < (S j).nx → Tj id → Live (S j).H id → Live (S 0).H id := fun id s h0 hid hT hl hd => by
    have h1 : id < (S 0).nx := by
      rcases Nat.lt_or_ge id (S 0).nx with h | h
      · exact h
      · have : (S j).nx ≤ (S ops.size).nx := (T.mono' (Nat.le_of_lt hjn) (Nat.le_refl _)).nx
        rw [hf0 id h (by omega)] at h0; cases h0
    exact hl ((now (I.ext id s h0) ⟨hid, hT⟩).1.func (I.dd id s h1 h0 (Ft.inA id hid hT) hd))
  -- a block that is another one's
  have apart : ∀ id s id' s' X', ρ id = some s → id < (S j).nx → Tj id → Live (S j).H id → glb P ≤ id → ρ id' = some s' → ¬ (id' < (S j).nx ∧ Tj id') → A id' → glb P ≤ id' → At S ops.size L id' X' → X' ≠ .dead → s.blk ≠ s'.blk := by
    intro id s id' s' X' hs hid hT hl hg hs' hT' hA' hg' hX' hl' e
    have := I.inj id id' s s' _ X' (Ft.inA id hid hT) hA' hg hg' hs hs' (now hs ⟨hid, hT⟩).1 hX' hl hl' e
    subst this
    exact hT' ⟨hid, hT⟩
  constructor
  case cl =>
    intro k hL ok hok e he hb
    rcases hL with hL | rfl
    · exact .inl (I.cl k hL ok hok e he hb)
    · rw [hj] at hok; cases hok
      exact .inl (hed e he hb)
  case env => exact (I.env.mono hp.ext).putE hv o.dst
  case tm =>
    intro t ht
    by_cases hd : o.dst = some t
    · have hnm : t ∈ namesOf ops o := List.mem_append_left _ (by rw [hd]; simp)
      refine ⟨j + 1, by omega, ?_, fun k hk hL hle hs => ?_, fun k hk hL hlt hs => ?_⟩
      · rw [hE, hd]
        by_cases htN : t < N
        · rw [get_putE_self T.cap htN, get_putE_self T.cap htN]
        · rw [get_putE_big htN, get_putE_big htN]
          exact (I.looks T hj hn hed ht hnm).symm
      · rcases hL with hL | hL
        · exact (I.agree T hj hn hed hk hnm hs).2 (by omega) hL
        · omega
      · have hne : k ≠ j := fun e => hL (.inr e)
        exact hL (.inl ((I.agree T hj hn hed hk hnm hs).1 (by omega)))
    · obtain ⟨τ, hτ, he, h1, h2⟩ := I.tm t ht
      refine ⟨τ, hτ, by rw [get_putE T.cap ht hd]; exact he, fun k hk hL hle hs => ?_, fun k hk hL hlt => h2 k hk (fun h => hL (.inl h)) hlt⟩
      rcases hL with hL | rfl
      · exact h1 k hk hL hle hs
      · obtain ⟨o', ho', hd'⟩ := hs
        rw [hj] at ho'; cases ho'
        exact hd hd'
  case defers => rw [put_defers]; exact I.defers
  case dfs =>
    intro k hk hL
    rcases hL with hL | rfl
    · exact I.dfs k hk hL
    · exact hdfs
  case ext => exact fun id s h => hp.ext id s (I.ext id s h)
  case dom =>
    intro id s hs
    rcases hp.dom id s hs with h | h
    · rcases I.dom id s h with h | ⟨k, hk, hL, h⟩
      · exact .inl h
      · exact .inr ⟨k, hk, .inl hL, h⟩
    · exact .inr ⟨j, hjn, .inr rfl, h⟩
  case gb => exact I.gb
  case b0 => exact Nat.le_trans I.b0 hp.size
  case cap => exact hp.rel.cap
  case lt => exact hp.rel.lt
  case glob => exact hp.rel.glob
  case own => exact hp.rel.own
  case val =>
    intro id s hs hA
    cases h0 : ρ id with
    | none => exact ⟨_, atNew id s hs h0, hp.rel.rows id s hs (.inl (.inr (newR id s hs h0).1))⟩
    | some s0 =>
      have := hp.ext id s0 h0
      rw [hs] at this; cases this
      by_cases hT : id < (S j).nx ∧ Tj id
      · exact ⟨_, (now h0 hT).2, hp.rel.rows id s hs (.inl (.inl hT))⟩
      · rcases Nat.lt_or_ge id (glb P) with hg | hg
        · exact ⟨_, T.atGlob hg (show j + 1 ≤ ops.size by omega) _, hp.rel.rows id s hs (.inr hg)⟩
        · have hA' : A id := by rcases hA with h | h; exact h; omega
          obtain ⟨X, hX, hO⟩ := I.val id s h0 hA
          refine ⟨X, hX.stay (stay id s h0 hT), ?_⟩
          by_cases hXd : X = .dead
          · rw [hXd]; trivial
          · rw [hp.frame s.blk (I.lt id s h0) fun id' s' hs' hg' hW' hl' e => ?_]
            · exact hO.mono hp.ext
            · have hlt := lv id' s' hs' hl'
              exact apart id' s' id s X hs' hlt (Ft.sub id' hlt hW') hl' hg' h0 hT hA' hg hX hXd e
  case inj =>
    intro id id' s s' X X' hA hA' hg hg' hs hs' hX hX' hl hl' e
    have cls : ∀ id s X, A id → ρ' id = some s → At S ops.size (fun k => L k ∨ k = j) id X → X ≠ .dead → glb P ≤ id →
        ((((id < (S j).nx ∧ Tj id) ∨ (S j).nx ≤ id) ∧ X = obj (S (j + 1)).H id) ∧ (w.heap.size ≤ s.blk ∨ ∃ id1 s1, ρ id1 = some s1 ∧ glb P ≤ id1 ∧ id1 < (S j).nx ∧ Tj id1 ∧ Live (S j).H id1 ∧ s1.blk = s.blk)) ∨
        (ρ id = some s ∧ ¬ (id < (S j).nx ∧ Tj id) ∧ At S ops.size L id X) := by
      intro id s X hA hs hX hl hg
      cases h0 : ρ id with
      | none =>
        refine .inl ⟨⟨.inr (newR id s hs h0).1, hX.func (atNew id s hs h0)⟩, ?_⟩
        rcases hp.newb id s hs h0 with h | ⟨id1, s1, h1, h2, h3, h4, h5⟩
        · exact .inl h
        · have hlt := lv id1 s1 h1 h4
          exact .inr ⟨id1, s1, h1, h2, hlt, Ft.sub id1 hlt h3, h4, h5⟩
      | some s0 =>
        have := hp.ext id s0 h0
        rw [hs] at this; cases this
        by_cases hT : id < (S j).nx ∧ Tj id
        · have hXe := hX.func (now h0 hT).2
          refine .inl ⟨⟨.inl hT, hXe⟩, .inr ⟨id, s, h0, hg, hT.1, hT.2, fun hd => hl ?_, rfl⟩⟩
          rw [hXe]; exact hp.dead id hT.1 hd
        · obtain ⟨X0, hX0, _⟩ := I.val id s h0 (.inl hA)
          have := hX.func (hX0.stay (stay id s h0 hT))
          rw [this]
          exact .inr ⟨rfl, hT, hX0⟩
    rcases cls id s X hA hs hX hl hg with ⟨⟨c1, c2⟩, c3⟩ | ⟨c1, c2, c3⟩
    · rcases cls id' s' X' hA' hs' hX' hl' hg' with ⟨⟨d1, d2⟩, d3⟩ | ⟨d1, d2, d3⟩
      · exact hp.rel.inj id id' s s' c1 d1 hg hg' hs hs' (by rw [c2] at hl; exact hl) (by rw [d2] at hl'; exact hl') e
      · rcases c3 with c3 | ⟨id1, s1, b1, b2, b3, b4, b5, b6⟩
        · have := I.lt id' s' d1; omega
        · exact absurd (b6.trans e) (apart id1 s1 id' s' X' b1 b3 b4 b5 b2 d1 d2 hA' hg' d3 hl')
    · rcases cls id' s' X' hA' hs' hX' hl' hg' with ⟨⟨d1, d2⟩, d3⟩ | ⟨d1, d2, d3⟩
      · rcases d3 with d3 | ⟨id1, s1, b1, b2, b3, b4, b5, b6⟩
        · have := I.lt id s c1; omega
        · exact absurd (b6.trans e.symm) (apart id1 s1 id s X b1 b3 b4 b5 b2 c1 c2 hA hg c3 hl)
      · exact I.inj id id' s s' X X' hA hA' hg hg' c1 d1 c3 d3 hl hl' e
  case kn =>
    intro k hk hL id hid h0
    have hρ : ρ id = none := by
      cases h : ρ id with
      | none => rfl
      | some s => rw [hp.ext id s h] at h0; cases h0
    rcases hL with hL | rfl
    · exact I.kn k hk hL id hid hρ
    · exact hp.keep0 id hid (.inl hρ)
  case dk =>
    intro k hk hL id hid hd
    rcases hL with hL | rfl
    · exact I.dk k hk hL id hid hd
    · exact hp.dead id hid hd
  case dd =>
    intro id s hid h0 hA hd
    have h1 := I.dd id s hid h0 hA hd
    have hs := I.ext id s h0
    by_cases hT : id < (S j).nx ∧ Tj id
    · have h2 := (now hs hT).1.func h1
      have h3 := hp.dead id hT.1 h2
      have h4 := (now hs hT).2
      rw [h3] at h4; exact h4
    · exact h1.stay (stay id s hs hT)
  case size => exact Nat.le_trans I.size hp.size
  case frame =>
    intro b hb hc
    rw [hp.frame b (Nat.lt_of_lt_of_le hb I.size) fun id s hs hg hW hl => ?_]
    · exact I.frame b hb hc
    · have hlt := lv id s hs hl
      have hT := Ft.sub id hlt hW
      cases h0 : ρ0 id with
      | some s0 =>
        have := I.ext id s0 h0
        rw [hs] at this; cases this
        exact hc id s h0 hg (Ft.wm id hlt hW) (liveOld id s h0 hlt hT hl)
      | none =>
        rcases I.nb id s hs h0 with h | ⟨id0, s0, b1, b2, b3, b4, b5⟩
        · omega
        · rw [← b5]; exact hc id0 s0 b1 b2 b3 b4
  case nb =>
    intro id s hs h0
    cases h1 : ρ id with
    | some s1 =>
      have := hp.ext id s1 h1
      rw [hs] at this; cases this
      exact I.nb id s h1 h0
    | none =>
      rcases hp.newb id s hs h1 with h | ⟨id1, s1, b1, b2, b3, b4, b5⟩
      · exact .inl (Nat.le_trans I.size h)
      · have hlt := lv id1 s1 b1 b4
        have hT := Ft.sub id1 hlt b3
        cases h2 : ρ0 id1 with
        | some s2 =>
          have := I.ext id1 s2 h2
          rw [b1] at this; cases this
          exact .inr ⟨id1, s1, h2, b2, Ft.wm id1 hlt b3, liveOld id1 s1 h2 hlt hT b4, b5⟩
        | none => rw [← b5]; exact I.nb id1 s1 b1 h2
  case tape => exact hp.tape.trans I.tape
  case os => exact hp.os.trans I.os
  case out => exact hp.out.trans I.out

end Go.CE
