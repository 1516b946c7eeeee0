/- Rows turned; memory looked at and turned. No program is named. -/
import Derived.Test.YtjaklcmadkpmdaaDoorCeH
import Derived.Laws.Tables
import Derived.Laws.Cells
noncomputable section
namespace Go.CE
open Go

/-! ### Pieces laid -/

def layN (d : Nat) : List TV → NT d TV → Nat → NT d TV
  | [], t, _ => t
  | v :: l, t, q => layN d l (updN d q t v) (q + 1)

theorem layPs_eq {β : Type} (d : Nat) : ∀ (l : List TV) (t : NT d TV) (q : Nat) (k : NT d TV → β), layPs d l t q k = k (layN d l t q)
  | [], _, _, _ => rfl
  | v :: l, t, q, k => by
    have e : layPs d (v :: l) t q k = (setN d q).f t v fun t => num (Nat.succ q) fun q => layPs d l t q k := rfl
    rw [e, setN_eq, num_eq, layPs_eq d l]; rfl

theorem get_lay (d : Nat) : ∀ (l : List TV) (t : NT d TV) (q i : Nat), (∀ j, j < l.length → q + j < capN d) → i < capN d →
    (getN d i).f (layN d l t q) = if q ≤ i ∧ i < q + l.length then l.getD (i - q) topT else (getN d i).f t
  | [], t, q, i, _, _ => by rw [if_neg (by simp only [List.length_nil]; omega)]; rfl
  | v :: l, t, q, i, h, hi => by
    show (getN d i).f (layN d l (updN d q t v) (q + 1)) = _
    rw [get_lay d l _ _ i (fun j hj => by have := h (j + 1) (by simp only [List.length_cons]; omega); omega) hi, get_upd d q i t v (h 0 (by simp)) hi]
    simp only [List.length_cons]
    by_cases h1 : i = q
    · subst h1
      rw [if_neg (by omega), if_pos rfl, if_pos (by omega), Nat.sub_self]; rfl
    · rw [if_neg h1]
      by_cases h2 : q ≤ i ∧ i < q + (l.length + 1)
      · rw [if_pos (by omega), if_pos h2]
        have : i - q = (i - (q + 1)) + 1 := by omega
        rw [this]; rfl
      · rw [if_neg (by omega), if_neg h2]

theorem Row.zero {sz d : Nat} {t : NT d TV} {f : Nat → CV} : Row sz d 0 t f :=
  ⟨fun i hi => by omega, fun q hq => by omega, fun q hq => by omega, Nat.zero_mod sz⟩

/-- Pieces are laid into a tree (it may grow so). -/
theorem lay_row {sz d n0 n q : Nat} {t : NT d TV} {f : Nat → CV} {l : List CV} {ps : List TV} (hc : ∀ i, i < n0 → cellAt sz d t i = f i) (hw : ∀ q, q * sz < n0 → PieceOk sz ((getN d q).f t))
    (hlev : ∀ q, q * sz < n → q < capN d) (hm : n % sz = 0) (hp : Pieces sz l ps) (hq : q * sz ≤ n0) (hle : q * sz + l.length ≤ n) (hn : ∀ i, i < n → i < n0 ∨ i < q * sz + l.length) :
    Row sz d n (layN d ps t q) fun i => if q * sz ≤ i ∧ i < q * sz + l.length then l.getD (i - q * sz) (.ref .top) else f i := by
  have hpos := hp.pos
  have hlen := hp.len
  have hup : ∀ j, j < ps.length → q + j < capN d := fun j hj => hlev _ (by
    have : j * sz < ps.length * sz := Nat.mul_lt_mul_of_pos_right hj hpos
    rw [Nat.add_mul]; omega)
  have hin : ∀ i, (q ≤ i / sz ∧ i / sz < q + ps.length) ↔ (q * sz ≤ i ∧ i < q * sz + l.length) := fun i => by
    rw [Nat.le_div_iff_mul_le hpos, Nat.div_lt_iff_lt_mul hpos, Nat.add_mul, hlen]
  have hdm : ∀ i, i / sz * sz + i % sz = i := fun i => by rw [Nat.mul_comm]; exact Nat.div_add_mod i sz
  refine ⟨fun i hi => ?_, fun q' hq' => ?_, hlev, hm⟩
  · unfold cellAt
    have hd := hdm i
    rw [get_lay d ps t q _ hup (hlev _ (by omega))]
    by_cases h : q ≤ i / sz ∧ i / sz < q + ps.length
    · rw [if_pos h, if_pos ((hin i).1 h), hp.cell _ _ (by omega) (Nat.mod_lt _ hpos)]
      congr 1
      rw [Nat.sub_mul]
      have := Nat.mul_le_mul_right sz h.1
      omega
    · rw [if_neg h, if_neg (fun hh => h ((hin i).2 hh))]
      have h' : ¬ (q * sz ≤ i ∧ i < q * sz + l.length) := fun hh => h ((hin i).2 hh)
      exact hc i (by rcases hn i hi with h1 | h1 <;> omega)
  · rw [get_lay d ps t q _ hup (hlev _ hq')]
    by_cases h : q ≤ q' ∧ q' < q + ps.length
    · rw [if_pos h]
      apply hp.whole
      rw [List.getD_eq_getElem?_getD, List.getElem?_eq_getElem (by omega)]
      exact List.getElem_mem _
    · rw [if_neg h]
      apply hw
      rcases hn _ hq' with h1 | h1
      · exact h1
      · have h2 : q' < q + ps.length := by
          rw [← hlen, ← Nat.add_mul] at h1
          exact Nat.lt_of_mul_lt_mul_right h1
        have : q' < q := by omega
        have := Nat.mul_lt_mul_of_pos_right this hpos
        omega

theorem Row.lay {sz d n q : Nat} {t : NT d TV} {f : Nat → CV} {l : List CV} {ps : List TV} (hr : Row sz d n t f) (hp : Pieces sz l ps) (hle : q * sz + l.length ≤ n) :
    Row sz d n (layN d ps t q) fun i => if q * sz ≤ i ∧ i < q * sz + l.length then l.getD (i - q * sz) (.ref .top) else f i :=
  lay_row hr.cell hr.whole hr.lev hr.mult hp (by omega) hle fun i hi => .inl hi

/-- One piece is another. -/
theorem Row.piece {sz d n off s : Nat} {t : NT d TV} {f : Nat → CV} (hr : Row sz d n t f) (hle : off + s ≤ n) (hj : off % sz + s ≤ sz) (hna : ¬ (off % sz = 0 ∧ s = 0)) {l : List CV} {p' : TV} (hp' : n ≠ 0 → PieceOk sz ((getN d (off / sz)).f t) → PieceOk sz p')
    (hat : n ≠ 0 → PieceOk sz ((getN d (off / sz)).f t) → ∀ j, j < sz → pieceAt p' j = if off % sz ≤ j ∧ j < off % sz + s then l.getD (j - off % sz) (.ref .top) else pieceAt ((getN d (off / sz)).f t) j) :
    Row sz d n (updN d (off / sz) t p') fun i => if off ≤ i ∧ i < off + s then l.getD (i - off) (.ref .top) else f i := by
  rcases Nat.eq_zero_or_pos n with hn | hn
  · subst hn; exact Row.zero
  · have hpos := hr.pos hn
    have hdm : off / sz * sz + off % sz = off := by rw [Nat.mul_comm]; exact Nat.div_add_mod off sz
    have hq : off / sz * sz < n := by omega
    have hlev := hr.lev _ hq
    have hpk := hr.whole _ hq
    have hp' := hp' (by omega) hpk
    have hat := hat (by omega) hpk
    refine ⟨fun i hi => ?_, fun q hq' => ?_, hr.lev, hr.mult⟩
    · have hdi : i / sz * sz + i % sz = i := by rw [Nat.mul_comm]; exact Nat.div_add_mod i sz
      have hmi : i % sz < sz := Nat.mod_lt _ hpos
      unfold cellAt
      rw [get_upd d _ _ t p' hlev (hr.lev _ (by omega))]
      by_cases e : i / sz = off / sz
      · rw [if_pos e, hat _ hmi]
        by_cases h : off % sz ≤ i % sz ∧ i % sz < off % sz + s
        · rw [if_pos h, if_pos (by rw [e] at hdi; omega)]
          congr 1
          rw [e] at hdi; omega
        · rw [if_neg h, if_neg (by rw [e] at hdi; omega), ← e]
          exact hr.cell i hi
      · rw [if_neg e]
        have : ¬ (off ≤ i ∧ i < off + s) := fun h => e (by
          have h1 : off / sz ≤ i / sz := Nat.div_le_div_right h.1
          have h2 : i / sz < off / sz + 1 := by
            rw [Nat.div_lt_iff_lt_mul hpos, Nat.succ_mul]; omega
          omega)
        rw [if_neg this]
        exact hr.cell i hi
    · rw [get_upd d _ _ t p' hlev (hr.lev _ hq')]
      by_cases e : q = off / sz
      · rw [if_pos e]; exact hp'
      · rw [if_neg e]; exact hr.whole q hq'

/-- Cells are laid over a row's. -/
theorem layCells_ok {β : Type} (sz d : Nat) (t : NT d TV) (l : List CV) (s off : Nat) (bad : β) (k : NT d TV → β) (hs : l.length = s) :
    layCells sz d l s t off bad k = bad ∨ ∃ t', layCells sz d l s t off bad k = k t' ∧ ∀ n f, Row sz d n t f → off + s ≤ n → Row sz d n t' fun i => if off ≤ i ∧ i < off + s then l.getD (i - off) (.ref .top) else f i := by
  unfold layCells layAt
  simp only [num_eq]
  rw [iff_eq]
  have hdm : off / sz * sz + off % sz = off := by rw [Nat.mul_comm]; exact Nat.div_add_mod off sz
  split
  · rename_i h
    simp only [Bool.and_eq_true] at h
    have h1 : off % sz = 0 := Nat.eq_of_beq_eq_true h.1
    have hom : off / sz * sz = off := by omega
    rcases pieces_ok sz l bad (fun ps => layPs d ps t (Nat.div off sz) k) with h2 | ⟨ps, h2, hps⟩
    · exact .inl h2
    · rw [h2, layPs_eq]
      refine .inr ⟨_, rfl, fun n f hr hle => ?_⟩
      have := hr.lay (q := off / sz) hps (by rw [hom, hs]; exact hle)
      rw [hom, hs] at this
      exact this
  · rename_i hna
    rw [iff_ble]
    split
    · rename_i hj
      have hj : off % sz + s ≤ sz := hj
      have hna : ¬ (off % sz = 0 ∧ s = 0) := fun e => hna (by
        simp only [Bool.and_eq_true]
        refine ⟨?_, ?_⟩
        · show Nat.beq (off % sz) 0 = true
          rw [e.1]; rfl
        · show Nat.beq (s % sz) 0 = true
          rw [e.2, Nat.zero_mod]; rfl)
      have hdiv : Nat.div off sz = off / sz := rfl
      have hmod : Nat.mod off sz = off % sz := rfl
      unfold layPiece
      rw [hdiv, hmod]
      split
      · rename_i c hc
        split
        · rename_i v
          simp only [setN_eq]
          simp only [List.length_cons, List.length_nil] at hs
          refine .inr ⟨_, rfl, fun n f hr hle => hr.piece hle hj hna (fun _ hp => ?_) fun _ hp j hj' => ?_⟩
          · rw [hc] at hp; exact hp
          · rw [hc] at hp
            have hsz : sz = 1 := hp
            rw [if_pos (by omega)]
            have : j - off % sz = 0 := by omega
            rw [this]; rfl
        · exact .inl rfl
      · rename_i cs hcs
        rw [spl_eq]
        split
        · rename_i hlen
          simp only [setN_eq]
          refine .inr ⟨_, rfl, fun n f hr hle => hr.piece hle hj hna (fun _ hp => ?_) fun _ hp j hj' => ?_⟩
          · rw [hcs] at hp
            refine ⟨?_, hp.2⟩
            have := hp.1
            simp only [List.length_append, List.length_take, List.length_drop]; omega
          · rw [hcs] at hp ⊢
            simp only [pieceAt, List.getD_eq_getElem?_getD]
            congr 1
            have h1 := hp.1
            by_cases h : off % sz ≤ j ∧ j < off % sz + s
            · rw [if_pos h, List.append_assoc, List.getElem?_append_right (by rw [List.length_take]; omega), List.length_take, Nat.min_eq_left (by omega), List.getElem?_append_left (by omega)]
            · rw [if_neg h]
              by_cases h2 : j < off % sz
              · rw [List.append_assoc, List.getElem?_append_left (by rw [List.length_take]; omega), List.getElem?_take_of_lt h2]
              · rw [List.getElem?_append_right (by rw [List.length_append, List.length_take]; omega), List.length_append, List.length_take, Nat.min_eq_left (by omega), List.getElem?_drop]
                rw [show off % sz + l.length + (j - (off % sz + l.length)) = j by omega]
        · exact .inl rfl
    · exact .inl rfl

theorem growT_ok {β : Type} (c d : Nat) (t : NT d TV) (k : (d : Nat) → NT d TV → β) : ∃ (d' : Nat) (t' : NT d' TV), growT c d t k = k d' t' ∧ capN d ≤ capN d' ∧ ∀ i, i < capN d → (getN d' i).f t' = (getN d i).f t := by
  unfold growT
  rw [iff_ble]
  split
  · exact ⟨d, t, rfl, Nat.le_refl _, fun _ _ => rfl⟩
  · refine ⟨d + 1, _, rfl, ?_, fun i hi => ?_⟩
    · simp only [capN, Nat.pow_succ]; omega
    · have h0 : i / 8 ^ d = 0 := Nat.div_eq_of_lt hi
      have h1 : i % 8 ^ d = i := Nat.mod_eq_of_lt hi
      refine (getN_succ d i _ (by rw [h0]; decide)).trans ?_
      rw [h1, h0]; rfl

/-! ### Memory looked at, turned -/

variable {P : Program} {B0 : Nat} {A W W' : Nat → Prop} {ρ ρ' ρ'' : Rho} {m m' m'' : M} {w w' w'' : World}

theorem look_ok' {β : Type} {id : Nat} {k : Ob → M → β} {r : β} (h : look P id m k = r) : ∃ rm, rm ≤ m.rm ∧ (rm ≤ id ∨ id < glb P) ∧ (rm = m.rm ∨ rm = id) ∧ k (obj m.H id) ⟨m.H, m.nx, rm, m.wm, m.dfs⟩ = r := by
  obtain ⟨H, nx, rm, wm, dfs⟩ := m
  have h : lookA P id H nx rm wm dfs k = r := h
  unfold lookA lookB at h
  rw [iff_ble, iff_ble] at h
  split at h
  · rename_i h1; exact ⟨rm, Nat.le_refl _, .inl h1, .inl rfl, h⟩
  · rename_i h1
    split at h
    · rename_i h2; exact ⟨rm, Nat.le_refl _, .inr h2, .inl rfl, h⟩
    · exact ⟨id, by show id ≤ rm; omega, .inl (Nat.le_refl _), .inr rfl, h⟩

theorem look_ok {β : Type} {id : Nat} {k : Ob → M → β} {r : β} (h : look P id m k = r) : ∃ rm, rm ≤ m.rm ∧ (rm ≤ id ∨ id < glb P) ∧ k (obj m.H id) ⟨m.H, m.nx, rm, m.wm, m.dfs⟩ = r :=
  let ⟨rm, a, b, _, c⟩ := look_ok' h
  ⟨rm, a, b, c⟩

theorem turn_ok' {β : Type} {id : Nat} {ob : Ob} {bad : β} {k : M → β} {r : β} (h : turn P id ob m bad k = r) : bad = r ∨ (glb P ≤ id ∧ id < m.nx ∧ k ⟨updN hd id m.H ob, m.nx, min m.rm id, min m.wm id, m.dfs⟩ = r) := by
  obtain ⟨H, nx, rm, wm, dfs⟩ := m
  have h : iff (Nat.ble (Nat.succ id) (glb P)) bad (iff (Nat.ble (Nat.succ id) nx) ((setN hd id).f H ob (turnA id nx rm wm dfs k)) bad) = r := h
  rw [iff_ble] at h
  split at h
  · exact .inl h
  · rw [iff_ble] at h
    split at h
    · rename_i hlt
      rw [setN_eq] at h
      unfold turnA minK at h
      simp only [iff_ble] at h
      refine .inr ⟨by omega, hlt, ?_⟩
      show k ⟨updN hd id H ob, nx, min rm id, min wm id, dfs⟩ = r
      rw [Nat.min_def, Nat.min_def]
      by_cases h1 : rm ≤ id <;> by_cases h2 : wm ≤ id <;> simp only [h1, h2, if_true, if_false] at h ⊢ <;> exact h
    · exact .inl h

theorem turn_ok {β : Type} {id : Nat} {ob : Ob} {bad : β} {k : M → β} {r : β} (h : turn P id ob m bad k = r) : bad = r ∨ (glb P ≤ id ∧ k ⟨updN hd id m.H ob, m.nx, min m.rm id, min m.wm id, m.dfs⟩ = r) :=
  (turn_ok' h).imp (fun h => h) fun ⟨a, _, b⟩ => ⟨a, b⟩

theorem fresh_ok {β : Type} {ob : Ob} {bad : β} {k : Nat → M → β} {r : β} (h : fresh ob m bad k = r) : bad = r ∨ (m.nx < capN hd ∧ k m.nx ⟨updN hd m.nx m.H ob, m.nx + 1, m.rm, m.wm, m.dfs⟩ = r) := by
  obtain ⟨H, nx, rm, wm, dfs⟩ := m
  have h : iff (Nat.ble (Nat.succ nx) (capN hd)) ((setN hd nx).f H ob (freshA nx rm wm dfs k)) bad = r := h
  rw [iff_ble] at h
  split at h
  · rename_i hlt
    rw [setN_eq] at h
    unfold freshA at h
    rw [num_eq] at h
    exact .inr ⟨hlt, h⟩
  · exact .inl h

end Go.CE
