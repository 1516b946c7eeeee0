/- Rows as trees of pieces: how they are made, read and turned. No program is named. -/
import Derived.Test.YtjaklcmadkpmdaaDoorCeG
noncomputable section
namespace Go.CE
open Go

/-! ### Trees out of lists -/

theorem at8_mk {α : Type} (a b c d e f g h : α) (q : Nat) (hq : q < 8) (p : Nat → α) (h0 : p 0 = a) (h1 : p 1 = b) (h2 : p 2 = c) (h3 : p 3 = d) (h4 : p 4 = e) (h5 : p 5 = f) (h6 : p 6 = g) (h7 : p 7 = h) :
    at8 q (⟨a, b, c, d, e, f, g, h⟩ : N8 α) = p q := by
  match q, hq with
  | 0, _ => exact h0.symm
  | 1, _ => exact h1.symm
  | 2, _ => exact h2.symm
  | 3, _ => exact h3.symm
  | 4, _ => exact h4.symm
  | 5, _ => exact h5.symm
  | 6, _ => exact h6.symm
  | 7, _ => exact h7.symm

theorem bld_ok {α β : Type} (z : α) (d : Nat) : ∀ (l : List α) (k : NT d α → List α → β), ∃ t, bld z d l k = k t (l.drop (capN d)) ∧ ∀ i, i < capN d → (getN d i).f t = l.getD i z := by
  induction d with
  | zero =>
    intro l k
    cases l with
    | nil => exact ⟨z, rfl, fun i _ => rfl⟩
    | cons x r =>
      refine ⟨x, rfl, fun i hi => ?_⟩
      have : i = 0 := by simp only [capN, Nat.pow_zero] at hi; omega
      subst this; rfl
  | succ d ih =>
    intro l k
    cases l with
    | nil =>
      refine ⟨fullN z (d + 1), ?_, fun i hi => ?_⟩
      · show k _ [] = k _ (([] : List α).drop _)
        rw [List.drop_nil]
      · rw [get_full z (d + 1) i hi]; rfl
    | cons x r =>
      generalize hl : x :: r = l
      have hp : 0 < 8 ^ d := Nat.pow_pos (by decide)
      -- the eight branches, one behind the other
      have step : ∀ (j : Nat) (k : NT d α → List α → β), ∃ t, bld z d (l.drop (j * 8 ^ d)) k = k t (l.drop ((j + 1) * 8 ^ d)) ∧ ∀ i, i < 8 ^ d → (getN d i).f t = l.getD (j * 8 ^ d + i) z := by
        intro j k
        obtain ⟨t, h1, h2⟩ := ih (l.drop (j * 8 ^ d)) k
        refine ⟨t, ?_, fun i hi => ?_⟩
        · rw [h1, List.drop_drop, Nat.succ_mul]; rfl
        · rw [h2 i hi]; simp [List.getD, List.getElem?_drop]
      have e : bld z (d + 1) l k = bld z d l fun a l => bld z d l fun b l => bld z d l fun c l => bld z d l fun d' l => bld z d l fun e l => bld z d l fun f l => bld z d l fun g l => bld z d l fun h l => k (N8.mk a b c d' e f g h : N8 (NT d α)) l := by
        rw [← hl]; rfl
      rw [e]
      have s0 := step 0; have s1 := step 1; have s2 := step 2; have s3 := step 3; have s4 := step 4; have s5 := step 5; have s6 := step 6; have s7 := step 7
      simp only [Nat.zero_mul, List.drop_zero, Nat.zero_add] at s0 s1 s2 s3 s4 s5 s6 s7
      obtain ⟨t0, a0, b0⟩ := s0 _
      rw [a0]
      obtain ⟨t1, a1, b1⟩ := s1 _
      rw [a1]
      obtain ⟨t2, a2, b2⟩ := s2 _
      rw [a2]
      obtain ⟨t3, a3, b3⟩ := s3 _
      rw [a3]
      obtain ⟨t4, a4, b4⟩ := s4 _
      rw [a4]
      obtain ⟨t5, a5, b5⟩ := s5 _
      rw [a5]
      obtain ⟨t6, a6, b6⟩ := s6 _
      rw [a6]
      obtain ⟨t7, a7, b7⟩ := s7 _
      rw [a7]
      refine ⟨(N8.mk t0 t1 t2 t3 t4 t5 t6 t7 : N8 (NT d α)), ?_, fun i hi => ?_⟩
      · congr 2
        simp only [capN, Nat.pow_succ]; omega
      · simp only [capN, Nat.pow_succ] at hi
        have hq : i / 8 ^ d < 8 := Nat.div_lt_of_lt_mul hi
        have hr : i % 8 ^ d < 8 ^ d := Nat.mod_lt _ hp
        have hdm : i / 8 ^ d * 8 ^ d + i % 8 ^ d = i := by rw [Nat.mul_comm]; exact Nat.div_add_mod i (8 ^ d)
        refine (getN_succ d i (N8.mk t0 t1 t2 t3 t4 t5 t6 t7 : N8 (NT d α)) hq).trans ?_
        unfold atN
        generalize hqq : i / 8 ^ d = q at *
        match q, hq with
        | 0, _ => exact (b0 _ hr).trans (by congr 1; omega)
        | 1, _ => exact (b1 _ hr).trans (by congr 1)
        | 2, _ => exact (b2 _ hr).trans (by congr 1)
        | 3, _ => exact (b3 _ hr).trans (by congr 1)
        | 4, _ => exact (b4 _ hr).trans (by congr 1)
        | 5, _ => exact (b5 _ hr).trans (by congr 1)
        | 6, _ => exact (b6 _ hr).trans (by congr 1)
        | 7, _ => exact (b7 _ hr).trans (by congr 1)

/-! ### Pieces -/

theorem bare_eq {β : Type} (l : List CV) (k : List TV → β) : bare l k = k (l.map .c) := by
  induction l generalizing k with
  | nil => rfl
  | cons x l ih => exact ih fun r => k (.c x :: r)

/-- A list of cells, in pieces. -/
structure Pieces (s : Nat) (l : List CV) (ps : List TV) : Prop where
  len : ps.length * s = l.length
  pos : 0 < s
  whole : ∀ p ∈ ps, PieceOk s p
  cell : ∀ q j, q < ps.length → j < s → pieceAt (ps.getD q topT) j = l.getD (q * s + j) (.ref .top)

theorem Pieces.bare (l : List CV) : Pieces 1 l (l.map .c) := by
  refine ⟨by simp, by decide, fun p hp => ?_, fun q j hq hj => ?_⟩
  · obtain ⟨c, _, rfl⟩ := List.mem_map.1 hp; rfl
  · have : j = 0 := by omega
    subst this
    simp only [List.length_map] at hq
    simp [List.getD, hq, pieceAt]

theorem groups_ok {β : Type} (s : Nat) (hs : s ≠ 0) (bad : β) : ∀ (n : Nat) (l : List CV) (k : List TV → β), l.length ≤ n →
    let g : Nat → List CV → (List TV → β) → β := fun n => Nat.rec (motive := fun _ => List CV → (List TV → β) → β) (fun _ k => k [])
      (fun _ ih l k => List.casesOn (motive := fun _ => β) l (k []) fun x r => splitK s r bad fun a b => ih b fun q => k (.agg (x :: a) :: q)) n
    g n l k = bad ∨ ∃ ps, g n l k = k ps ∧ Pieces (s + 1) l ps := by
  intro n
  induction n with
  | zero =>
    intro l k hl g
    have : l = [] := List.length_eq_zero_iff.1 (by omega)
    subst this
    exact .inr ⟨[], rfl, by simp, by omega, by simp, fun q j hq => by simp at hq⟩
  | succ n ih =>
    intro l k hl g
    cases l with
    | nil => exact .inr ⟨[], rfl, by simp, by omega, by simp, fun q j hq => by simp at hq⟩
    | cons x r =>
      have e : g (n + 1) (x :: r) k = splitK s r bad fun a b => g n b fun q => k (.agg (x :: a) :: q) := rfl
      rw [e, splitK_eq]
      by_cases h : s ≤ r.length
      · rw [if_pos h]
        rcases ih (r.drop s) (fun q => k (.agg (x :: r.take s) :: q)) (by simp at hl ⊢; omega) with h1 | ⟨ps, h1, h2⟩
        · exact .inl h1
        · refine .inr ⟨_, h1, ?_, by omega, fun p hp => ?_, fun q j hq hj => ?_⟩
          · have := h2.len
            simp only [List.length_cons, List.length_drop] at this ⊢
            rw [Nat.succ_mul, this]; omega
          · rcases List.mem_cons.1 hp with rfl | hp
            · exact ⟨by simp [h], by omega⟩
            · exact h2.whole p hp
          · cases q with
            | zero =>
              simp only [List.getD_cons_zero, pieceAt, Nat.zero_mul, Nat.zero_add]
              cases j with
              | zero => rfl
              | succ j =>
                simp only [List.getD_eq_getElem?_getD, List.getElem?_cons_succ]
                rw [List.getElem?_take_of_lt (by omega)]
            | succ q =>
              simp only [List.length_cons, Nat.add_lt_add_iff_right] at hq
              have h3 := h2.cell q j hq hj
              simp only [List.getD_cons_succ]
              rw [h3]
              have e2 : (q + 1) * (s + 1) + j = (s + (q * (s + 1) + j)) + 1 := by rw [Nat.succ_mul]; omega
              rw [e2, List.getD_cons_succ]
              simp [List.getD_eq_getElem?_getD, List.getElem?_drop]
      · rw [if_neg h]; exact .inl rfl

theorem pieces_ok {β : Type} (s : Nat) (l : List CV) (bad : β) (k : List TV → β) : pieces s l bad k = bad ∨ ∃ ps, pieces s l bad k = k ps ∧ Pieces s l ps := by
  unfold pieces
  split
  · exact .inl rfl
  · exact .inr ⟨_, bare_eq l k, Pieces.bare l⟩
  · rename_i s
    exact groups_ok (s + 1) (by omega) bad l.length l k (Nat.le_refl _)

/-! ### Rows -/

/-- A tree whose first n cells are f, in pieces of sz. -/
structure Row (sz d n : Nat) (t : NT d TV) (f : Nat → CV) : Prop where
  cell : ∀ i, i < n → cellAt sz d t i = f i
  whole : ∀ q, q * sz < n → PieceOk sz ((getN d q).f t)
  lev : ∀ q, q * sz < n → q < capN d
  mult : n % sz = 0

theorem Row.of_pieces {sz d : Nat} {l : List CV} {ps : List TV} (h : Pieces sz l ps) (hd : ps.length ≤ capN d) {t : NT d TV} (ht : ∀ i, i < capN d → (getN d i).f t = ps.getD i topT) : Row sz d l.length t fun i => l.getD i (.ref .top) := by
  have hlt : ∀ q, q * sz < l.length → q < ps.length := fun q hq => by
    rw [← h.len] at hq
    exact Nat.lt_of_mul_lt_mul_right hq
  refine ⟨fun i hi => ?_, fun q hq => ?_, fun q hq => Nat.lt_of_lt_of_le (hlt q hq) hd, ?_⟩
  · have hdm : i / sz * sz + i % sz = i := by rw [Nat.mul_comm]; exact Nat.div_add_mod i sz
    have hq := hlt (i / sz) (by omega)
    unfold cellAt
    rw [ht _ (Nat.lt_of_lt_of_le hq hd), h.cell _ _ hq (Nat.mod_lt _ h.pos), hdm]
  · have hq' := hlt q hq
    rw [ht _ (Nat.lt_of_lt_of_le hq' hd)]
    apply h.whole
    rw [List.getD_eq_getElem?_getD, List.getElem?_eq_getElem hq']
    exact List.getElem_mem hq'
  · rw [← h.len]; exact Nat.mul_mod_left _ _

theorem lev_ok (n : Nat) (h : n ≤ capN 5) : n ≤ capN (lev n) := by
  unfold lev
  simp only [iff_ble]
  simp only [capN] at *
  split
  · simpa using ‹n ≤ 1›
  · split
    · simpa using ‹n ≤ 8›
    · split
      · simpa using ‹n ≤ 64›
      · split
        · simpa using ‹n ≤ 512›
        · split
          · simpa using ‹n ≤ 4096›
          · exact h

/-- A row of these cells is made (or nothing is). -/
theorem rowOf_ok {β : Type} (elem sz : Nat) (cells : List CV) (bad : β) (k : Ob → β) :
    rowOf elem sz cells bad k = bad ∨ ∃ sz' d t, rowOf elem sz cells bad k = k (.row elem cells.length sz' false 0 d t) ∧ Row sz' d cells.length t fun i => cells.getD i (.ref .top) := by
  unfold rowOf
  rw [iff_eq]
  split
  · rename_i h
    have h := Nat.eq_of_beq_eq_true h
    unfold rowOne
    split
    · rename_i v _
      refine .inr ⟨1, 0, TV.c v, rfl, ⟨fun i hi => ?_, fun q hq => ?_, fun q hq => ?_, Nat.mod_one _⟩⟩
      · have : i = 0 := by simp at hi; omega
        subst this; rfl
      · rfl
      · simp at hq; simp [capN, hq]
    · rename_i hne
      refine .inr ⟨sz, 0, TV.agg cells, by rw [h], ⟨fun i hi => ?_, fun q hq => ?_, fun q hq => ?_, by rw [h]; exact Nat.mod_self sz⟩⟩
      · unfold cellAt pieceAt
        rw [h] at hi
        rw [Nat.mod_eq_of_lt hi]; rfl
      · refine ⟨h, fun h1 => ?_⟩
        rw [h1] at h
        obtain ⟨v, hv⟩ := List.length_eq_one_iff.1 h
        exact hne v hv
      · rw [h] at hq
        have : q = 0 := by
          cases q with
          | zero => rfl
          | succ q => rw [Nat.succ_mul] at hq; omega
        rw [this]; simp [capN]
  · unfold rowMany
    rcases pieces_ok sz cells bad (fun ps => num ps.length fun c => iff (Nat.ble c (capN 5)) (num (lev c) fun d => num cells.length fun n => bld topT d ps fun t _ => k (.row elem n sz false 0 d t)) bad) with h | ⟨ps, h, hps⟩
    · exact .inl h
    · rw [h]
      simp only [num_eq, iff_ble]
      split
      · rename_i hcap
        obtain ⟨t, h1, h2⟩ := bld_ok topT (lev ps.length) ps (fun t _ => k (.row elem cells.length sz false 0 (lev ps.length) t))
        rw [h1]
        exact .inr ⟨sz, _, t, rfl, Row.of_pieces hps (lev_ok _ hcap) h2⟩
      · exact .inl rfl

theorem Row.ext {sz d n : Nat} {t : NT d TV} {f g : Nat → CV} (h : Row sz d n t f) (e : ∀ i, i < n → f i = g i) : Row sz d n t g :=
  ⟨fun i hi => (h.cell i hi).trans (e i hi), h.whole, h.lev, h.mult⟩

/-! ### Reading -/

/-- A piece's cells, all of them. -/
def allOf (p : TV) : List CV :=
  match p with
  | .c v => [v]
  | .agg l => l

theorem allOf_ok {sz : Nat} {p : TV} (h : PieceOk sz p) : (allOf p).length = sz ∧ ∀ j, j < sz → (allOf p).getD j (.ref .top) = pieceAt p j := by
  cases p with
  | c v =>
    have h : sz = 1 := h
    subst h
    exact ⟨rfl, fun j hj => by have : j = 0 := by omega
                               subst this; rfl⟩
  | agg l => exact ⟨h.1, fun j _ => rfl⟩

theorem cellAt_mul {sz d : Nat} {t : NT d TV} (q j : Nat) (hj : j < sz) : cellAt sz d t (q * sz + j) = pieceAt ((getN d q).f t) j := by
  unfold cellAt
  have h1 : (q * sz + j) / sz = q := by
    rw [Nat.mul_comm, Nat.mul_add_div (by omega), Nat.div_eq_of_lt hj]; rfl
  have h2 : (q * sz + j) % sz = j := by
    rw [Nat.mul_comm, Nat.mul_add_mod, Nat.mod_eq_of_lt hj]
  rw [h1, h2]

theorem takePs_eq {β : Type} (d : Nat) (t : NT d TV) (s q : Nat) (k : List CV → β) : takePs d t s q k = k (((List.range' q s).map fun q => allOf ((getN d q).f t)).flatten) := by
  induction s generalizing q k with
  | zero => rfl
  | succ s ih =>
    have e : takePs d t (s + 1) q k = (match (getN d q).f t with
      | .c v => num (Nat.succ q) fun q => takePs d t s q fun r => k (v :: r)
      | .agg l => num (Nat.succ q) fun q => takePs d t s q fun r => appC l r k) := rfl
    rw [e, List.range'_succ]
    cases h : (getN d q).f t with
    | c v => simp only [num_eq, ih, List.map_cons, List.flatten_cons, h, allOf]; rfl
    | agg l => simp only [num_eq, ih, appC_eq, List.map_cons, List.flatten_cons, h, allOf]

/-- Pieces one behind the other, all whole: their cells. -/
theorem flat_ok {sz d n : Nat} {t : NT d TV} (hw : ∀ q, q * sz < n → PieceOk sz ((getN d q).f t)) (hpos : 0 < sz) : ∀ (s q : Nat), (q + s) * sz ≤ n →
    (((List.range' q s).map fun q => allOf ((getN d q).f t)).flatten).length = s * sz ∧
    ∀ j, j < s * sz → (((List.range' q s).map fun q => allOf ((getN d q).f t)).flatten).getD j (.ref .top) = cellAt sz d t (q * sz + j)
  | 0, q, _ => ⟨by simp, fun j hj => by simp at hj⟩
  | s + 1, q, h => by
    have hq : q * sz < n := by
      have : q * sz + sz ≤ (q + (s + 1)) * sz := by rw [Nat.add_mul, Nat.succ_mul]; omega
      omega
    obtain ⟨h1, h2⟩ := flat_ok hw hpos s (q + 1) (by rw [show q + 1 + s = q + (s + 1) by omega]; exact h)
    obtain ⟨h3, h4⟩ := allOf_ok (hw q hq)
    rw [List.range'_succ]
    simp only [List.map_cons, List.flatten_cons, List.length_append]
    refine ⟨by rw [h1, h3, Nat.succ_mul]; omega, fun j hj => ?_⟩
    rw [List.getD_eq_getElem?_getD, List.getElem?_append]
    by_cases hlt : j < sz
    · rw [if_pos (by rw [h3]; exact hlt), ← List.getD_eq_getElem?_getD, h4 j hlt, cellAt_mul _ _ hlt]
    · rw [if_neg (by rw [h3]; exact hlt), h3, ← List.getD_eq_getElem?_getD, h2 (j - sz) (by rw [Nat.succ_mul] at hj; omega)]
      congr 1
      rw [Nat.succ_mul]; omega

/-- So many cells, from one on, are told. -/
structure Cells (sz d : Nat) (t : NT d TV) (off s : Nat) (l : List CV) : Prop where
  len : l.length = s
  cell : ∀ j, j < s → l.getD j (.ref .top) = cellAt sz d t (off + j)

theorem Row.pos {sz d n : Nat} {t : NT d TV} {f : Nat → CV} (h : Row sz d n t f) (hn : 0 < n) : 0 < sz := by
  rcases Nat.eq_zero_or_pos sz with h0 | h0
  · have := h.mult; rw [h0, Nat.mod_zero] at this; omega
  · exact h0

theorem takeCells_ok' {β : Type} (sz d : Nat) (t : NT d TV) (s off : Nat) (bad : β) (k : List CV → β) :
    takeCells sz d t s off bad k = bad ∨ ∃ l, takeCells sz d t s off bad k = k l ∧ ∀ n f, Row sz d n t f → off + s ≤ n → Cells sz d t off s l := by
  unfold takeCells takeAt
  simp only [num_eq]
  have hdm : off / sz * sz + off % sz = off := by rw [Nat.mul_comm]; exact Nat.div_add_mod off sz
  rw [iff_eq]
  split
  · rename_i h
    simp only [Bool.and_eq_true] at h
    have h1 : off % sz = 0 := Nat.eq_of_beq_eq_true h.1
    have h2 : s % sz = 0 := Nat.eq_of_beq_eq_true h.2
    have hsm : s / sz * sz = s := by have := Nat.div_add_mod s sz; rw [h2, Nat.mul_comm] at this; omega
    have hom : off / sz * sz = off := by omega
    rw [takePs_eq]
    refine .inr ⟨_, rfl, fun n f hr hle => ?_⟩
    rcases Nat.eq_zero_or_pos s with hs | hs
    · subst hs
      have e2 : Nat.div 0 sz = 0 := Nat.zero_div sz
      rw [e2]
      exact ⟨rfl, fun j hj => by omega⟩
    · have hpos := hr.pos (by omega)
      obtain ⟨h3, h4⟩ := flat_ok hr.whole hpos (s / sz) (off / sz) (by rw [Nat.add_mul, hsm, hom]; exact hle)
      refine ⟨h3.trans hsm, fun j hj => ?_⟩
      have h5 := h4 j (by rw [hsm]; exact hj)
      rw [hom] at h5
      exact h5
  · rw [iff_ble]
    split
    · rename_i hj
      have hj : off % sz + s ≤ sz := hj
      have hcell : ∀ n f, Row sz d n t f → off + s ≤ n → ∀ j, j < s → cellAt sz d t (off + j) = pieceAt ((getN d (off / sz)).f t) (off % sz + j) := fun n f hr hle j hj' => by
        rw [← cellAt_mul (sz := sz) (t := t) (off / sz) (off % sz + j) (by omega)]
        congr 1; omega
      unfold pieceCells
      split
      · rename_i v hv
        rw [iff_eq]
        split
        · rename_i h
          simp only [Bool.and_eq_true] at h
          have h1 : off % sz = 0 := Nat.eq_of_beq_eq_true h.1
          have h2 : s = 1 := Nat.eq_of_beq_eq_true h.2
          subst h2
          refine .inr ⟨[v], rfl, fun n f hr hle => ⟨rfl, fun j hj' => ?_⟩⟩
          rw [hcell n f hr hle j hj']
          have : j = 0 := by omega
          subst this
          have hv' : (getN d (off / sz)).f t = .c v := hv
          rw [hv']; rfl
        · exact .inl rfl
      · rename_i l hl
        have hl' : (getN d (off / sz)).f t = .agg l := hl
        rw [sub_eq]
        split
        · rename_i hlen
          have hmod : Nat.mod off sz = off % sz := rfl
          rw [hmod] at hlen ⊢
          refine .inr ⟨_, rfl, fun n f hr hle => ⟨?_, fun j hj' => ?_⟩⟩
          · rw [List.length_take]; omega
          · rw [hcell n f hr hle j hj', hl', List.getD_eq_getElem?_getD, List.getElem?_take_of_lt hj', List.getElem?_drop]
            show _ = l.getD (off % sz + j) (.ref .top)
            rw [List.getD_eq_getElem?_getD]
        · exact .inl rfl
    · exact .inl rfl

theorem takeCells_ok {β : Type} {sz d n : Nat} {t : NT d TV} {f : Nat → CV} (hr : Row sz d n t f) (s off : Nat) (bad : β) (k : List CV → β) (hle : off + s ≤ n) :
    takeCells sz d t s off bad k = bad ∨ ∃ l, takeCells sz d t s off bad k = k l ∧ Cells sz d t off s l :=
  (takeCells_ok' sz d t s off bad k).imp id fun ⟨l, h1, h2⟩ => ⟨l, h1, h2 n f hr hle⟩

end Go.CE
