/- The evaluator, part 3. -/
import Derived.Test.YtljkifkamnbbaaaGreatDoorCe2
import Derived.Laws.Tables
import Derived.Laws.Cells
import Derived.Laws.MakeOwn
import Derived.Laws.BytesString
import Derived.Laws.Slices
import Derived.Lib.UnsafeStr
import Derived.Deep.AppendSrc
/- Rows turned; memory looked at and turned. No program is named. -/
noncomputable section WI
namespace Go.CE
open Go

/-! ### Pieces laid -/

def layN (d : Nat) : List TV → NT d TV → Nat → NT d TV
  | [], t, _ => t
  | v :: l, t, q => layN d l (updN d q t v) (q + 1)

theorem layPs_eq {β : Type} (d : Nat) : ∀ (l : List TV) (t : NT d TV) (q : Nat) (k : NT d TV → β), layPs d l t q k = k (layN d l t q)
  | [], _, _, _ => rfl
  | v :: l, t, q, k => by
    have e : layPs d (v :: l) t q k = (setN d q).f t v fun t => num (Nat.succ q) fun q => layPs d l t q k := rfl
    rw [e, setN_eq, num_eq, layPs_eq d l]; rfl

theorem get_lay (d : Nat) : ∀ (l : List TV) (t : NT d TV) (q i : Nat), (∀ j, j < l.length → q + j < capN d) → i < capN d →
    (getN d i).f (layN d l t q) = if q ≤ i ∧ i < q + l.length then l.getD (i - q) topT else (getN d i).f t
  | [], t, q, i, _, _ => by rw [if_neg (by simp only [List.length_nil]; omega)]; rfl
  | v :: l, t, q, i, h, hi => by
    show (getN d i).f (layN d l (updN d q t v) (q + 1)) = _
    rw [get_lay d l _ _ i (fun j hj => by have := h (j + 1) (by simp only [List.length_cons]; omega); omega) hi, get_upd d q i t v (h 0 (by simp)) hi]
    simp only [List.length_cons]
    by_cases h1 : i = q
    · subst h1
      rw [if_neg (by omega), if_pos rfl, if_pos (by omega), Nat.sub_self]; rfl
    · rw [if_neg h1]
      by_cases h2 : q ≤ i ∧ i < q + (l.length + 1)
      · rw [if_pos (by omega), if_pos h2]
        have : i - q = (i - (q + 1)) + 1 := by omega
        rw [this]; rfl
      · rw [if_neg (by omega), if_neg h2]

theorem Row.zero {sz d : Nat} {t : NT d TV} {f : Nat → CV} : Row sz d 0 t f :=
  ⟨fun i hi => by omega, fun q hq => by omega, fun q hq => by omega, Nat.zero_mod sz⟩

/-- Pieces are laid into a tree (it may grow so). -/
theorem lay_row {sz d n0 n q : Nat} {t : NT d TV} {f : Nat → CV} {l : List CV} {ps : List TV} (hc : ∀ i, i < n0 → cellAt sz d t i = f i) (hw : ∀ q, q * sz < n0 → PieceOk sz ((getN d q).f t))
    (hlev : ∀ q, q * sz < n → q < capN d) (hm : n % sz = 0) (hp : Pieces sz l ps) (hq : q * sz ≤ n0) (hle : q * sz + l.length ≤ n) (hn : ∀ i, i < n → i < n0 ∨ i < q * sz + l.length) :
    Row sz d n (layN d ps t q) fun i => if q * sz ≤ i ∧ i < q * sz + l.length then l.getD (i - q * sz) (.ref .top) else f i := by
  have hpos := hp.pos
  have hlen := hp.len
  have hup : ∀ j, j < ps.length → q + j < capN d := fun j hj => hlev _ (by
    have : j * sz < ps.length * sz := Nat.mul_lt_mul_of_pos_right hj hpos
    rw [Nat.add_mul]; omega)
  have hin : ∀ i, (q ≤ i / sz ∧ i / sz < q + ps.length) ↔ (q * sz ≤ i ∧ i < q * sz + l.length) := fun i => by
    rw [Nat.le_div_iff_mul_le hpos, Nat.div_lt_iff_lt_mul hpos, Nat.add_mul, hlen]
  have hdm : ∀ i, i / sz * sz + i % sz = i := fun i => by rw [Nat.mul_comm]; exact Nat.div_add_mod i sz
  refine ⟨fun i hi => ?_, fun q' hq' => ?_, hlev, hm⟩
  · unfold cellAt
    have hd := hdm i
    rw [get_lay d ps t q _ hup (hlev _ (by omega))]
    by_cases h : q ≤ i / sz ∧ i / sz < q + ps.length
    · rw [if_pos h, if_pos ((hin i).1 h), hp.cell _ _ (by omega) (Nat.mod_lt _ hpos)]
      congr 1
      rw [Nat.sub_mul]
      have := Nat.mul_le_mul_right sz h.1
      omega
    · rw [if_neg h, if_neg (fun hh => h ((hin i).2 hh))]
      have h' : ¬ (q * sz ≤ i ∧ i < q * sz + l.length) := fun hh => h ((hin i).2 hh)
      exact hc i (by rcases hn i hi with h1 | h1 <;> omega)
  · rw [get_lay d ps t q _ hup (hlev _ hq')]
    by_cases h : q ≤ q' ∧ q' < q + ps.length
    · rw [if_pos h]
      apply hp.whole
      rw [List.getD_eq_getElem?_getD, List.getElem?_eq_getElem (by omega)]
      exact List.getElem_mem _
    · rw [if_neg h]
      apply hw
      rcases hn _ hq' with h1 | h1
      · exact h1
      · have h2 : q' < q + ps.length := by
          rw [← hlen, ← Nat.add_mul] at h1
          exact Nat.lt_of_mul_lt_mul_right h1
        have : q' < q := by omega
        have := Nat.mul_lt_mul_of_pos_right this hpos
        omega

theorem Row.lay {sz d n q : Nat} {t : NT d TV} {f : Nat → CV} {l : List CV} {ps : List TV} (hr : Row sz d n t f) (hp : Pieces sz l ps) (hle : q * sz + l.length ≤ n) :
    Row sz d n (layN d ps t q) fun i => if q * sz ≤ i ∧ i < q * sz + l.length then l.getD (i - q * sz) (.ref .top) else f i :=
  lay_row hr.cell hr.whole hr.lev hr.mult hp (by omega) hle fun i hi => .inl hi

/-- One piece is another. -/
theorem Row.piece {sz d n off s : Nat} {t : NT d TV} {f : Nat → CV} (hr : Row sz d n t f) (hle : off + s ≤ n) (hj : off % sz + s ≤ sz) (hna : ¬ (off % sz = 0 ∧ s = 0)) {l : List CV} {p' : TV} (hp' : n ≠ 0 → PieceOk sz ((getN d (off / sz)).f t) → PieceOk sz p')
    (hat : n ≠ 0 → PieceOk sz ((getN d (off / sz)).f t) → ∀ j, j < sz → pieceAt p' j = if off % sz ≤ j ∧ j < off % sz + s then l.getD (j - off % sz) (.ref .top) else pieceAt ((getN d (off / sz)).f t) j) :
    Row sz d n (updN d (off / sz) t p') fun i => if off ≤ i ∧ i < off + s then l.getD (i - off) (.ref .top) else f i := by
  rcases Nat.eq_zero_or_pos n with hn | hn
  · subst hn; exact Row.zero
  · have hpos := hr.pos hn
    have hdm : off / sz * sz + off % sz = off := by rw [Nat.mul_comm]; exact Nat.div_add_mod off sz
    have hq : off / sz * sz < n := by omega
    have hlev := hr.lev _ hq
    have hpk := hr.whole _ hq
    have hp' := hp' (by omega) hpk
    have hat := hat (by omega) hpk
    refine ⟨fun i hi => ?_, fun q hq' => ?_, hr.lev, hr.mult⟩
    · have hdi : i / sz * sz + i % sz = i := by rw [Nat.mul_comm]; exact Nat.div_add_mod i sz
      have hmi : i % sz < sz := Nat.mod_lt _ hpos
      unfold cellAt
      rw [get_upd d _ _ t p' hlev (hr.lev _ (by omega))]
      by_cases e : i / sz = off / sz
      · rw [if_pos e, hat _ hmi]
        by_cases h : off % sz ≤ i % sz ∧ i % sz < off % sz + s
        · rw [if_pos h, if_pos (by rw [e] at hdi; omega)]
          congr 1
          rw [e] at hdi; omega
        · rw [if_neg h, if_neg (by rw [e] at hdi; omega), ← e]
          exact hr.cell i hi
      · rw [if_neg e]
        have : ¬ (off ≤ i ∧ i < off + s) := fun h => e (by
          have h1 : off / sz ≤ i / sz := Nat.div_le_div_right h.1
          have h2 : i / sz < off / sz + 1 := by
            rw [Nat.div_lt_iff_lt_mul hpos, Nat.succ_mul]; omega
          omega)
        rw [if_neg this]
        exact hr.cell i hi
    · rw [get_upd d _ _ t p' hlev (hr.lev _ hq')]
      by_cases e : q = off / sz
      · rw [if_pos e]; exact hp'
      · rw [if_neg e]; exact hr.whole q hq'

/-- Cells are laid over a row's. -/
theorem layCells_ok {β : Type} (sz d : Nat) (t : NT d TV) (l : List CV) (s off : Nat) (bad : β) (k : NT d TV → β) (hs : l.length = s) :
    layCells sz d l s t off bad k = bad ∨ ∃ t', layCells sz d l s t off bad k = k t' ∧ ∀ n f, Row sz d n t f → off + s ≤ n → Row sz d n t' fun i => if off ≤ i ∧ i < off + s then l.getD (i - off) (.ref .top) else f i := by
  unfold layCells layAt
  simp only [num_eq]
  rw [iff_eq]
  have hdm : off / sz * sz + off % sz = off := by rw [Nat.mul_comm]; exact Nat.div_add_mod off sz
  split
  · rename_i h
    simp only [Bool.and_eq_true] at h
    have h1 : off % sz = 0 := Nat.eq_of_beq_eq_true h.1
    have hom : off / sz * sz = off := by omega
    rcases pieces_ok sz l bad (fun ps => layPs d ps t (Nat.div off sz) k) with h2 | ⟨ps, h2, hps⟩
    · exact .inl h2
    · rw [h2, layPs_eq]
      refine .inr ⟨_, rfl, fun n f hr hle => ?_⟩
      have := hr.lay (q := off / sz) hps (by rw [hom, hs]; exact hle)
      rw [hom, hs] at this
      exact this
  · rename_i hna
    rw [iff_ble]
    split
    · rename_i hj
      have hj : off % sz + s ≤ sz := hj
      have hna : ¬ (off % sz = 0 ∧ s = 0) := fun e => hna (by
        simp only [Bool.and_eq_true]
        refine ⟨?_, ?_⟩
        · show Nat.beq (off % sz) 0 = true
          rw [e.1]; rfl
        · show Nat.beq (s % sz) 0 = true
          rw [e.2, Nat.zero_mod]; rfl)
      have hdiv : Nat.div off sz = off / sz := rfl
      have hmod : Nat.mod off sz = off % sz := rfl
      unfold layPiece
      rw [hdiv, hmod]
      split
      · rename_i c hc
        split
        · rename_i v
          simp only [setN_eq]
          simp only [List.length_cons, List.length_nil] at hs
          refine .inr ⟨_, rfl, fun n f hr hle => hr.piece hle hj hna (fun _ hp => ?_) fun _ hp j hj' => ?_⟩
          · rw [hc] at hp; exact hp
          · rw [hc] at hp
            have hsz : sz = 1 := hp
            rw [if_pos (by omega)]
            have : j - off % sz = 0 := by omega
            rw [this]; rfl
        · exact .inl rfl
      · rename_i cs hcs
        rw [spl_eq]
        split
        · rename_i hlen
          simp only [setN_eq]
          refine .inr ⟨_, rfl, fun n f hr hle => hr.piece hle hj hna (fun _ hp => ?_) fun _ hp j hj' => ?_⟩
          · rw [hcs] at hp
            refine ⟨?_, hp.2⟩
            have := hp.1
            simp only [List.length_append, List.length_take, List.length_drop]; omega
          · rw [hcs] at hp ⊢
            simp only [pieceAt, List.getD_eq_getElem?_getD]
            congr 1
            have h1 := hp.1
            by_cases h : off % sz ≤ j ∧ j < off % sz + s
            · rw [if_pos h, List.append_assoc, List.getElem?_append_right (by rw [List.length_take]; omega), List.length_take, Nat.min_eq_left (by omega), List.getElem?_append_left (by omega)]
            · rw [if_neg h]
              by_cases h2 : j < off % sz
              · rw [List.append_assoc, List.getElem?_append_left (by rw [List.length_take]; omega), List.getElem?_take_of_lt h2]
              · rw [List.getElem?_append_right (by rw [List.length_append, List.length_take]; omega), List.length_append, List.length_take, Nat.min_eq_left (by omega), List.getElem?_drop]
                rw [show off % sz + l.length + (j - (off % sz + l.length)) = j by omega]
        · exact .inl rfl
    · exact .inl rfl

theorem growT_ok {β : Type} (c d : Nat) (t : NT d TV) (k : (d : Nat) → NT d TV → β) : ∃ (d' : Nat) (t' : NT d' TV), growT c d t k = k d' t' ∧ capN d ≤ capN d' ∧ ∀ i, i < capN d → (getN d' i).f t' = (getN d i).f t := by
  unfold growT
  rw [iff_ble]
  split
  · exact ⟨d, t, rfl, Nat.le_refl _, fun _ _ => rfl⟩
  · refine ⟨d + 1, _, rfl, ?_, fun i hi => ?_⟩
    · simp only [capN, Nat.pow_succ]; omega
    · have h0 : i / 8 ^ d = 0 := Nat.div_eq_of_lt hi
      have h1 : i % 8 ^ d = i := Nat.mod_eq_of_lt hi
      refine (getN_succ d i _ (by rw [h0]; decide)).trans ?_
      rw [h1, h0]; rfl

/-! ### Memory looked at, turned -/

variable {P : Program} {B0 : Nat} {A W W' : Nat → Prop} {ρ ρ' ρ'' : Rho} {m m' m'' : M} {w w' w'' : World}

theorem look_ok' {β : Type} {id : Nat} {k : Ob → M → β} {r : β} (h : look P id m k = r) : ∃ rm, rm ≤ m.rm ∧ (rm ≤ id ∨ id < glb P) ∧ (rm = m.rm ∨ rm = id) ∧ k (obj m.H id) ⟨m.H, m.nx, rm, m.wm, m.dfs⟩ = r := by
  obtain ⟨H, nx, rm, wm, dfs⟩ := m
  have h : lookA P id H nx rm wm dfs k = r := h
  unfold lookA lookB at h
  rw [iff_ble, iff_ble] at h
  split at h
  · rename_i h1; exact ⟨rm, Nat.le_refl _, .inl h1, .inl rfl, h⟩
  · rename_i h1
    split at h
    · rename_i h2; exact ⟨rm, Nat.le_refl _, .inr h2, .inl rfl, h⟩
    · exact ⟨id, by show id ≤ rm; omega, .inl (Nat.le_refl _), .inr rfl, h⟩

theorem look_ok {β : Type} {id : Nat} {k : Ob → M → β} {r : β} (h : look P id m k = r) : ∃ rm, rm ≤ m.rm ∧ (rm ≤ id ∨ id < glb P) ∧ k (obj m.H id) ⟨m.H, m.nx, rm, m.wm, m.dfs⟩ = r :=
  let ⟨rm, a, b, _, c⟩ := look_ok' h
  ⟨rm, a, b, c⟩

theorem turn_ok' {β : Type} {id : Nat} {ob : Ob} {bad : β} {k : M → β} {r : β} (h : turn P id ob m bad k = r) : bad = r ∨ (glb P ≤ id ∧ id < m.nx ∧ k ⟨updN hd id m.H ob, m.nx, min m.rm id, min m.wm id, m.dfs⟩ = r) := by
  obtain ⟨H, nx, rm, wm, dfs⟩ := m
  have h : iff (Nat.ble (Nat.succ id) (glb P)) bad (iff (Nat.ble (Nat.succ id) nx) ((setN hd id).f H ob (turnA id nx rm wm dfs k)) bad) = r := h
  rw [iff_ble] at h
  split at h
  · exact .inl h
  · rw [iff_ble] at h
    split at h
    · rename_i hlt
      rw [setN_eq] at h
      unfold turnA minK at h
      simp only [iff_ble] at h
      refine .inr ⟨by omega, hlt, ?_⟩
      show k ⟨updN hd id H ob, nx, min rm id, min wm id, dfs⟩ = r
      rw [Nat.min_def, Nat.min_def]
      by_cases h1 : rm ≤ id <;> by_cases h2 : wm ≤ id <;> simp only [h1, h2, if_true, if_false] at h ⊢ <;> exact h
    · exact .inl h

theorem turn_ok {β : Type} {id : Nat} {ob : Ob} {bad : β} {k : M → β} {r : β} (h : turn P id ob m bad k = r) : bad = r ∨ (glb P ≤ id ∧ k ⟨updN hd id m.H ob, m.nx, min m.rm id, min m.wm id, m.dfs⟩ = r) :=
  (turn_ok' h).imp (fun h => h) fun ⟨a, _, b⟩ => ⟨a, b⟩

theorem fresh_ok {β : Type} {ob : Ob} {bad : β} {k : Nat → M → β} {r : β} (h : fresh ob m bad k = r) : bad = r ∨ (m.nx < capN hd ∧ k m.nx ⟨updN hd m.nx m.H ob, m.nx + 1, m.rm, m.wm, m.dfs⟩ = r) := by
  obtain ⟨H, nx, rm, wm, dfs⟩ := m
  have h : iff (Nat.ble (Nat.succ nx) (capN hd)) ((setN hd nx).f H ob (freshA nx rm wm dfs k)) bad = r := h
  rw [iff_ble] at h
  split at h
  · rename_i hlt
    rw [setN_eq] at h
    unfold freshA at h
    rw [num_eq] at h
    exact .inr ⟨hlt, h⟩
  · exact .inl h

end Go.CE
end WI

/- Operations on memory: made, read, written. No program is named. -/
noncomputable section WJ
namespace Go.CE
open Go

variable {P : Program} {B0 : Nat} {A W W' : Nat → Prop} {ρ ρ' ρ'' : Rho} {m m' m'' : M} {w w' w'' : World}

/-- A row's cells, when it is made. -/
theorem RowR.new {sz d n : Nat} {t : NT d TV} {l : List CV} {c : Array Value} {x : Nat} {opn : Bool} {fr : Nat × Nat} (hn : l.length = n) (hr : Row sz d n t fun i => l.getD i (.ref .top)) (hv : All2 (CR ρ) l (c.toList.take n))
    (hx : c.size = n + x * sz) (ho : opn = false → x = 0) (hfr : fr = (0, 0) ∨ c.size ≤ fr.1) (blk : Nat) : RowR ρ ⟨blk, 0, x⟩ n sz opn 0 d t c fr := by
  refine ⟨fun i hi => ?_, hr.whole, hr.lev, hr.mult, by show 0 + n + x * sz ≤ c.size; omega, fun h => ⟨ho h, rfl, by rw [hx, ho h, Nat.zero_mul, Nat.add_zero]⟩, fun i _ hi => ?_, fun h => (by simp at h), fun _ => hfr.imp (fun h => by rw [h]) fun h => h⟩
  · obtain ⟨b, hb, hc⟩ := hv.get i (l[i]'(by omega)) (List.getElem?_eq_getElem _)
    rw [List.getElem?_take_of_lt hi, Array.getElem?_toList] at hb
    refine ⟨b, by rw [Nat.zero_add]; exact hb, ?_⟩
    rw [hr.cell i hi, List.getD_eq_getElem?_getD, List.getElem?_eq_getElem (by omega)]
    exact hc
  · have hi : i < n + x * sz := hi
    rcases hfr with rfl | h
    · simp
    · rw [Bool.and_eq_false_iff]
      left
      simp only [decide_eq_false_iff_not, Nat.zero_add]
      omega

theorem rowOf_OR {β : Type} (elem sz : Nat) (cells : List CV) (bad : β) (k : Ob → β) : rowOf elem sz cells bad k = bad ∨
    ∃ ob, rowOf elem sz cells bad k = k ob ∧ ∀ (ρ : Rho) (blk : Nat) (c : Array Value), All2 (CR ρ) cells c.toList → OR ρ ⟨blk, 0, 0⟩ ob (some (.cells c elem)) := by
  rcases rowOf_ok elem sz cells bad k with h | ⟨sz', d, t, h, hr⟩
  · exact .inl h
  · refine .inr ⟨_, h, fun ρ blk c hc => ⟨c, (0, 0), rfl, RowR.new rfl hr ?_ ?_ (fun _ => rfl) (.inl rfl) blk⟩⟩
    · rw [List.take_of_length_le (by rw [hc.length]; exact Nat.le_refl _)]; exact hc
    · rw [Nat.zero_mul, Nat.add_zero, hc.length, Array.length_toList]

/-- Something new is there. -/
theorem Done.fresh (hw : WF P m) (h : Rel P B0 A ρ m.H w) (hnx : m.nx < capN hd) (hρ : ρ m.nx = none) {o : Obj} {ob : Ob} {x : Nat} {v : AV} {val : Value}
    (ho : OR (ins ρ m.nx ⟨w.heap.size, 0, x⟩) ⟨w.heap.size, 0, x⟩ ob (some o)) (hv : AR (ins ρ m.nx ⟨w.heap.size, 0, x⟩) v val) :
    Done P B0 A ρ m w v ⟨updN hd m.nx m.H ob, m.nx + 1, m.rm, m.wm, m.dfs⟩ val (w.alloc o) (ins ρ m.nx ⟨w.heap.size, 0, x⟩) :=
  ⟨hv, Post.alloc hw h hnx hρ o ob x ho _ _ _, Nat.le_refl _, Nat.le_refl _, rfl⟩

theorem Done.drew {v : AV} {x : Value} (h : Done P B0 A ρ m w.drew v m' x w' ρ') : Done P B0 A ρ m w v m' x w' ρ' := ⟨h.val, h.post.drew_l, h.rm, h.wm, h.dfs⟩

theorem Fresh.one (h : Fresh ρ m m') (h1 : m'.nx = m.nx + 1) : ρ m.nx = none := h m.nx (Nat.le_refl _) (by omega)

theorem run_newRow (elem : TypeId) (cells : Array Value) (w : World) : (newRow elem cells).run P w = .ok ⟨w.heap.size, 0, none⟩ (w.alloc (.cells cells elem)) := rfl

theorem okPtr_eq {id : Nat} {v : AV} (h : okPtr id m = .ok v m') : v = .c (.ref (.ptr id 0)) ∧ m' = m := by cases h; exact ⟨rfl, rfl⟩

theorem okSlc_eq {a b id : Nat} {v : AV} (h : okSlc a b id m = .ok v m') : v = .c (.ref (.slc id 0 a b)) ∧ m' = m := by cases h; exact ⟨rfl, rfl⟩

theorem zeroRow_OR (elem : TypeId) (z : List CV) (ρ : Rho) (blk : Nat) (c : Array Value) (hc : All2 (CR ρ) z c.toList) : OR ρ ⟨blk, 0, 0⟩ (zeroRow elem z).ob (some (.cells c elem)) := by
  unfold zeroRow
  rcases rowOf_OR elem z.length z (ObF.mk .dead) (fun ob => ⟨ob⟩) with h | ⟨ob, h, hob⟩
  · rw [h]; trivial
  · rw [h]; exact hob ρ blk c hc

theorem allocD_ok {o : Oper} {t : TypeId} (ho : o.op = .alloc t) {D : Nat} : OpOK P o (allocD P t (D := D)) := by
  unfold allocD
  split
  · rename_i z hz
    intro c e m v m' h B0 A N ρ a w hw _ hr he hf
    have h : fresh (zeroRow t z).ob m (.fail [16]) okPtr = .ok v m' := h
    rcases fresh_ok h with h | ⟨hnx, h⟩
    · cases h
    · obtain ⟨rfl, rfl⟩ := okPtr_eq h
      have hρ := hf.one rfl
      obtain ⟨zv, hzv, hzr⟩ := run_zeroT hz w
      refine ⟨.pointer (some ⟨w.heap.size, 0, none⟩), _, _, .inl ?_, Done.fresh hw hr hnx hρ (o := .cells zv.cells t) (x := 0) (zeroRow_OR t z _ _ _ (hzr _)) ⟨_, ins_self _ _, rfl⟩⟩
      unfold execOp
      rw [ho]
      simp only [Instr.alloc, Sem.run_bind, hzv, Result.andThen_ok, newVar, run_newRow, Sem.run_pure]
  · exact OpOK.no

theorem boxD_ok {o : Oper} {t : TypeId} {x : Operand} (ho : o.op = .box t x) {D : Nat} : OpOK P o (boxD P t x (D := D)) := by
  intro c e m v m' h B0 A N ρ a w hw _ hr he hf
  have hx := he.eval hr.glob x
  have hrun : ∀ y, a.eval x = y → (execOp a.eval o).run P w = .ok (.value (.pointer (some ⟨w.heap.size, 0, none⟩))) (w.alloc (.cells y.cells t)) := fun y hy => by
    unfold execOp
    rw [ho]
    simp only [Instr.box, Sem.run_bind, Result.andThen_ok, newVar, run_newRow, Sem.run_pure, hy]
  have h : boxA t ((evO P x).f e) m = .ok v m' := h
  unfold boxA at h
  split at h
  · rename_i cv hcv
    rw [hcv] at hx
    have hx : CR ρ cv (a.eval x) := hx
    unfold boxC at h
    rcases fresh_ok h with h | ⟨hnx, h⟩
    · cases h
    · obtain ⟨rfl, rfl⟩ := okPtr_eq h
      have hρ := hf.one rfl
      refine ⟨_, _, _, .inl (hrun _ rfl), Done.fresh hw hr hnx hρ (x := 0) ⟨_, _, rfl, ?_⟩ ⟨_, ins_self _ _, rfl⟩⟩
      rw [AR.cells_c hx]
      have hrow : Row 1 0 1 (TV.c cv) fun i => [cv].getD i (.ref .top) := ⟨fun i hi => by
          have : i = 0 := by omega
          subst this; rfl, fun q _ => (rfl : 1 = 1), fun q hq => by simp only [capN]; omega, rfl⟩
      have hall : All2 (CR (ins ρ m.nx ⟨w.heap.size, 0, 0⟩)) [cv] [a.eval x] := ⟨CR.mono (ins_ext hρ) hx, trivial⟩
      exact RowR.new (c := #[a.eval x]) (l := [cv]) rfl hrow hall rfl (fun _ => rfl) (.inl rfl) _
  · rename_i l hl
    rw [hl] at hx
    obtain ⟨vs, hvs, hall⟩ := hx
    unfold boxL at h
    rw [num_eq] at h
    rcases rowOf_OR t l.length l (.fail [15]) (fun ob => fresh ob m (.fail [15]) okPtr) with h1 | ⟨ob, h1, hob⟩
    · rw [h1] at h; cases h
    · rw [h1] at h
      rcases fresh_ok h with h | ⟨hnx, h⟩
      · cases h
      · obtain ⟨rfl, rfl⟩ := okPtr_eq h
        have hρ := hf.one rfl
        refine ⟨_, _, _, .inl (hrun _ hvs), Done.fresh hw hr hnx hρ (x := 0) (hob _ _ _ ?_) ⟨_, ins_self _ _, rfl⟩⟩
        exact All2.mono (fun _ _ => CR.mono (ins_ext hρ)) hall
  · cases h

/-! ### Read -/

/-- What is behind a number that may be looked at. -/
theorem Rel.at (h : Rel P B0 A ρ m.H w) (hin : In A m m') {id : Nat} {s : Seg} (hs : ρ id = some s) (hid : m'.rm ≤ id ∨ id < glb P) : OR ρ s (obj m.H id) w.heap[s.blk]? :=
  h.rows id s hs (hid.imp (fun h => hin id (.inl h)) fun h => h)

theorem Done.looked (hw : WF P m) (h : Rel P B0 A ρ m.H w) {rm : Nat} (hrm : rm ≤ m.rm) {v : AV} {x : Value} (hv : AR ρ v x) : Done P B0 A ρ m w v ⟨m.H, m.nx, rm, m.wm, m.dfs⟩ x w ρ :=
  ⟨hv, (Post.refl hw h).marks rfl rfl rfl rfl, hrm, Nat.le_refl _, rfl⟩

theorem cell_at {c : Array Value} {el : TypeId} {fr : Nat × Nat} {b : Nat} (hb : w.heap[b]? = some (.cells c el fr)) (i : Nat) : w.cell? ⟨b, i, none⟩ = c[i]? := by
  simp [World.cell?, hb]

theorem run_loadRow {c : Array Value} {el : TypeId} {fr : Nat × Nat} {b : Nat} (hb : w.heap[b]? = some (.cells c el fr)) {o k : Nat} (hle : o + k ≤ c.size) :
    (loadCells ⟨b, o, none⟩ k).run P w = .ok ((c.toList.drop o).take k).toArray w := by
  have hlen : ((c.toList.drop o).take k).length = k := by
    rw [List.length_take, List.length_drop, Array.length_toList]; omega
  have := run_loadCells_list (P := P) w ⟨b, o, none⟩ ((c.toList.drop o).take k) (fun j v hj => ?_)
  · rw [hlen] at this; exact this
  · have hjk : j < k := by
      rcases Nat.lt_or_ge j k with h | h
      · exact h
      · rw [List.getElem?_eq_none (by omega)] at hj; cases hj
    rw [List.getElem?_take_of_lt hjk, List.getElem?_drop, Array.getElem?_toList] at hj
    rw [Addr.add_plain, cell_at hb, hj]

theorem RowR.size {s : Seg} {n sz d fz : Nat} {opn : Bool} {t : NT d TV} {c : Array Value} {fr : Nat × Nat} (hr : RowR ρ s n sz opn fz d t c fr) : s.base + n ≤ c.size := by
  have := hr.room
  have : n + s.ext * sz ≥ n := Nat.le_add_right _ _
  omega

theorem cells_rel {s : Seg} {n sz d fz : Nat} {opn : Bool} {t : NT d TV} {c : Array Value} {fr : Nat × Nat} (hr : RowR ρ s n sz opn fz d t c fr) {off k : Nat} (hle : off + k ≤ n) {l : List CV}
    (hl : Cells sz d t off k l) : All2 (CR ρ) l ((c.toList.drop (s.base + off)).take k) := by
  have hsz := hr.size
  have hlen : ((c.toList.drop (s.base + off)).take k).length = k := by
    rw [List.length_take, List.length_drop, Array.length_toList]; omega
  refine All2.of_get (by rw [hl.len, hlen]) fun i a b ha hb' => ?_
  have hi : i < k := by
    rcases Nat.lt_or_ge i k with h | h
    · exact h
    · rw [List.getElem?_eq_none (by rw [hl.len]; exact h)] at ha; cases ha
  have h1 : cellAt sz d t (off + i) = a := by
    rw [← hl.cell i hi, List.getD_eq_getElem?_getD, ha]; rfl
  obtain ⟨y, hy, hc⟩ := hr.cell (off + i) (by omega)
  rw [h1] at hc
  have h2 : b = y := by
    simp only [List.getElem?_take_of_lt hi, List.getElem?_drop, Array.getElem?_toList] at hb'
    rw [← Nat.add_assoc] at hy
    rw [hy] at hb'
    cases hb'; rfl
  rw [h2]; exact hc

/-- Cells of a row, read. -/
theorem run_cells {s : Seg} {n sz d fz : Nat} {opn : Bool} {t : NT d TV} {c : Array Value} {el : TypeId} {fr : Nat × Nat} (hb : w.heap[s.blk]? = some (.cells c el fr)) (hr : RowR ρ s n sz opn fz d t c fr) {off k : Nat} (hle : off + k ≤ n) {l : List CV}
    (hl : Cells sz d t off k l) : ∃ vs : Array Value, (loadCells ⟨s.blk, s.base + off, none⟩ k).run P w = .ok vs w ∧ All2 (CR ρ) l vs.toList :=
  ⟨_, run_loadRow hb (by have := hr.size; omega), cells_rel hr hle hl⟩

theorem RowR.row {s : Seg} {n sz d fz : Nat} {opn : Bool} {t : NT d TV} {c : Array Value} {fr : Nat × Nat} (hr : RowR ρ s n sz opn fz d t c fr) : Row sz d n t (cellAt sz d t) := ⟨fun _ _ => rfl, hr.whole, hr.lev, hr.mult⟩

theorem takeCells_or {β : Type} (sz d : Nat) (t : NT d TV) (s off : Nat) (bad : β) (k : List CV → β) : takeCells sz d t s off bad k = bad ∨ ∃ l, takeCells sz d t s off bad k = k l := by
  unfold takeCells takeAt
  simp only [num_eq, iff_eq]
  split
  · rw [takePs_eq]; exact .inr ⟨_, rfl⟩
  · split
    · unfold pieceCells
      split
      · rw [iff_eq]; split
        · exact .inr ⟨_, rfl⟩
        · exact .inl rfl
      · rw [sub_eq]; split
        · exact .inr ⟨_, rfl⟩
        · exact .inl rfl
    · exact .inl rfl

theorem loadAgg_m {s sz d off : Nat} {t : NT d TV} {v : AV} (h : loadAgg s sz d t off m = .ok v m') : m' = m := by
  unfold loadAgg at h
  rw [iff_eq] at h
  split at h
  · rw [num_eq] at h
    unfold okPiece at h
    split at h <;> cases h <;> rfl
  · rcases takeCells_or sz d t s off (RO.fail [231]) (fun l => .ok (.agg l) m) with h1 | ⟨l, h1⟩ <;> rw [h1] at h <;> cases h
    rfl

theorem loadOne_m {sz d off : Nat} {t : NT d TV} {v : AV} (h : loadOne sz d t off m = .ok v m') : m' = m := by
  unfold loadOne at h
  split at h
  · unfold okBare at h
    split at h <;> cases h; rfl
  · rw [num_eq, num_eq] at h
    unfold okNth at h
    split at h
    · rw [nthC_eq] at h
      split at h <;> cases h; rfl
    · cases h

/-- What a load of so many cells is. -/
theorem loadAgg_ok {sz d n : Nat} {t : NT d TV} (hr : Row sz d n t (cellAt sz d t)) {s off : Nat} (hle : off + s ≤ n) {v : AV} (h : loadAgg s sz d t off m = .ok v m') : m' = m ∧ ∃ l, v = .agg l ∧ Cells sz d t off s l := by
  unfold loadAgg at h
  rw [iff_eq] at h
  split at h
  · rename_i hc
    simp only [Bool.and_eq_true] at hc
    have h1 : s = sz := Nat.eq_of_beq_eq_true hc.1.1
    have h2 : off % sz = 0 := Nat.eq_of_beq_eq_true hc.1.2
    have h3 : 1 ≤ s := ble_iff.1 hc.2
    subst h1
    have hdm : off / s * s + off % s = off := by rw [Nat.mul_comm]; exact Nat.div_add_mod off s
    have hp := allOf_ok (hr.whole (off / s) (by omega))
    rw [num_eq] at h
    have h : okPiece m ((getN d (off / s)).f t) = .ok v m' := h
    have e : ∀ p, okPiece m p = .ok (.agg (allOf p)) m := fun p => by cases p <;> rfl
    rw [e] at h
    cases h
    refine ⟨rfl, _, rfl, hp.1, fun j hj => ?_⟩
    rw [hp.2 j hj, ← cellAt_mul (t := t) (off / s) j hj]
    congr 1; omega
  · rcases takeCells_ok hr s off (RO.fail [231]) (fun l => .ok (.agg l) m) hle with h1 | ⟨l, h1, hl⟩
    · rw [h1] at h; cases h
    · rw [h1] at h; cases h
      exact ⟨rfl, l, rfl, hl⟩

theorem loadOne_ok {sz d n : Nat} {t : NT d TV} (hr : Row sz d n t (cellAt sz d t)) {off : Nat} (hlt : off < n) {v : AV} (h : loadOne sz d t off m = .ok v m') : m' = m ∧ v = .c (cellAt sz d t off) := by
  have hpos := hr.pos (by omega)
  unfold loadOne at h
  split at h
  · unfold okBare at h
    split at h
    · rename_i c hc
      cases h
      refine ⟨rfl, ?_⟩
      unfold cellAt
      rw [Nat.div_one, hc]; rfl
    · cases h
  · rw [num_eq, num_eq] at h
    have h : okNth m (off % sz) ((getN d (off / sz)).f t) = .ok v m' := h
    unfold okNth at h
    split at h
    · rename_i l hl
      rw [nthC_eq] at h
      split at h
      · rename_i c hc
        cases h
        refine ⟨rfl, ?_⟩
        unfold cellAt
        rw [hl]
        simp only [pieceAt, List.getD_eq_getElem?_getD, hc, Option.getD_some]
      · cases h
    · cases h

theorem loadRow_ok {agg : Bool} {s off : Nat} {ob : Ob} {v : AV} (h : loadRow agg s off ob m = .ok v m') : ∃ el n sz opn fz d t, ob = .row el n sz opn fz d t ∧ off + s ≤ n ∧ iff agg (loadAgg s sz d t off m) (loadOne sz d t off m) = .ok v m' := by
  cases ob with
  | row el n sz opn fz d t =>
    have h : iff (Nat.ble (Nat.add off s) n) (iff agg (loadAgg s sz d t off m) (loadOne sz d t off m)) (.fail [19]) = .ok v m' := h
    rw [iff_ble] at h
    split at h
    · rename_i hle; exact ⟨_, _, _, _, _, _, _, rfl, hle, h⟩
    · cases h
  | _ => cases h

theorem loadA_ok {agg : Bool} {s : Nat} {v : AV} {x : AV} (h : loadA P agg s x m = .ok v m') : ∃ id off, x = .c (.ref (.ptr id off)) ∧ look P id m (loadRow agg s off) = .ok v m' := by
  cases x with
  | c c => cases c with
    | ref r => cases r with
      | ptr id off => exact ⟨id, off, rfl, h⟩
      | _ => cases h
    | _ => cases h
  | _ => cases h

/-- A value is read out of memory. -/
theorem run_loadT {agg : Bool} {k : Nat} {ty : TypeId} (hA : isAggT P ty = some agg) (hS : sizeT P ty = some k) (h1 : agg = true ∨ k = 1) {s : Seg} {n sz d fz : Nat} {opn : Bool} {t : NT d TV} {c : Array Value} {el : TypeId} {fr : Nat × Nat}
    (hb : w.heap[s.blk]? = some (.cells c el fr)) (hr : RowR ρ s n sz opn fz d t c fr) {off : Nat} (hle : off + k ≤ n) {v : AV} (h : iff agg (loadAgg k sz d t off m) (loadOne sz d t off m) = .ok v m') :
    m' = m ∧ ∃ x, (loadVar ty ⟨s.blk, s.base + off, none⟩).run P w = .ok x w ∧ AR ρ v x := by
  cases agg with
  | true =>
    obtain ⟨rfl, l, rfl, hl⟩ := loadAgg_ok hr.row hle h
    refine ⟨rfl, ?_⟩
    obtain ⟨vs, hvs, hall⟩ := run_cells (P := P) hb hr hle hl
    refine ⟨.agg vs, ?_, vs, rfl, hall⟩
    simp only [loadVar, Sem.run_bind, run_isAggT hA, Result.andThen_ok, if_true, run_sizeT hS, hvs, Sem.run_pure]
  | false =>
    have hk : k = 1 := by rcases h1 with h1 | h1; cases h1; exact h1
    subst hk
    obtain ⟨rfl, rfl⟩ := loadOne_ok hr.row (by omega) h
    refine ⟨rfl, ?_⟩
    obtain ⟨x, hx, hc⟩ := hr.cell off (by omega)
    refine ⟨x, ?_, hc⟩
    have hcell : w.cell? ⟨s.blk, s.base + off, none⟩ = some x := by rw [cell_at hb]; exact hx
    simp only [loadVar, Sem.run_bind, run_isAggT hA, Result.andThen_ok, Bool.false_eq_true, if_false, run_load, hcell]

/-- A load, and what it looks at. -/
theorem loadD_go {o : Oper} {t : TypeId} {x : Operand} (ho : o.op = .load t x) {D : Nat} {c : Ctx} {e : NT D AV} {v : AV} (h : (loadD P t x (D := D)).f c e m = .ok v m') :
    ∃ id off rm, (evO P x).f e = .c (.ref (.ptr id off)) ∧ rm ≤ m.rm ∧ (rm ≤ id ∨ id < glb P) ∧ (rm = m.rm ∨ rm = id) ∧ m' = ⟨m.H, m.nx, rm, m.wm, m.dfs⟩ ∧
      ∀ (B0 : Nat) (A : Nat → Prop) (N : Nat) (ρ : Rho) (a : Act) (w : World), Rel P B0 A ρ m.H w → ENV ρ N D e a.tmps → (A id ∨ id < glb P) → ∃ y, (execOp a.eval o).run P w = .ok (.value y) w ∧ AR ρ v y := by
  unfold loadD at h
  split at h
  · rename_i agg s hA hS
    rw [iff_eq] at h
    split at h
    · rename_i h1
      have h1 : agg = true ∨ s = 1 := by
        rcases Bool.or_eq_true _ _ ▸ h1 with h | h
        · exact .inl h
        · exact .inr (Nat.eq_of_beq_eq_true h)
      have h : loadA P agg s ((evO P x).f e) m = .ok v m' := h
      obtain ⟨id, off, hx, h⟩ := loadA_ok h
      obtain ⟨rm, hrm, hid, hrm', h⟩ := look_ok' h
      obtain ⟨el, n, sz, opn, fz, d, tr, hob, hle, h⟩ := loadRow_ok h
      have hm : m' = ⟨m.H, m.nx, rm, m.wm, m.dfs⟩ := by
        cases agg with
        | true => exact loadAgg_m h
        | false => exact loadOne_m h
      refine ⟨id, off, rm, hx, hrm, hid, hrm', hm, fun B0 A N ρ a w hr he hA' => ?_⟩
      subst hm
      have hxv := he.eval hr.glob x
      rw [hx] at hxv
      obtain ⟨sg, hsg, hv⟩ := hxv
      have hrow := hr.rows _ _ hsg hA'
      rw [hob] at hrow
      obtain ⟨cs, fr, hb, hrr⟩ := hrow
      obtain ⟨_, y, hy, hay⟩ := run_loadT (P := P) hA hS h1 hb hrr hle h
      refine ⟨y, ?_, hay⟩
      unfold execOp
      rw [ho]
      simp only [Instr.loadAt, hv, Instr.sureAddr, Sem.run_bind, Sem.run_pure, Result.andThen_ok, hy]
    · cases h
  · cases h

theorem loadD_ok {o : Oper} {t : TypeId} {x : Operand} (ho : o.op = .load t x) {D : Nat} : OpOK P o (loadD P t x (D := D)) := by
  intro c e m v m' h B0 A N ρ a w hw hin hr he hf
  obtain ⟨id, off, rm, hx, hrm, hid, _, rfl, hgo⟩ := loadD_go ho h
  obtain ⟨y, hy, hay⟩ := hgo B0 A N ρ a w hr he (hid.imp (fun h => hin id (.inl h)) fun h => h)
  exact ⟨y, w, ρ, .inl hy, Done.looked hw hr hrm hay⟩

/-- A number that an operand holds is one. -/
theorem ptr_cap {N D : Nat} {e : NT D AV} {a : Act} (hr : Rel P B0 A ρ m.H w) (he : ENV ρ N D e a.tmps) {x : Operand} {id off : Nat} (hx : (evO P x).f e = .c (.ref (.ptr id off))) : id < inf := by
  have hxv := he.eval hr.glob x
  rw [hx] at hxv
  obtain ⟨sg, hsg, hv⟩ := hxv
  have := hr.cap _ _ hsg
  have h2 : capN hd ≤ inf := by decide
  exact Nat.lt_of_lt_of_le this h2

theorem loadD_ok1 {o : Oper} {t : TypeId} {x : Operand} (ho : o.op = .load t x) {D : Nat} : OpOK1 P o (loadD P t x (D := D)) := by
  intro c e m v m' hrm0 hwm0 h B0 A N ρ a w hw hin hr he hf
  obtain ⟨id, off, rm, hx, hrm, hid, hrm', rfl, hgo⟩ := loadD_go ho h
  have hlt := ptr_cap hr he hx
  obtain ⟨y, hy, hay⟩ := hgo B0 A N ρ a w hr he (by
    rcases hid with h1 | h1
    · left
      have : rm = id := by rcases hrm' with h2 | h2 <;> omega
      subst this
      rcases Nat.lt_or_ge rm m.nx with h3 | h3
      · exact hin.one h3
      · exact hin.new _ h3
    · exact .inr h1)
  exact ⟨y, w, ρ, .inl hy, hay, (Post.refl hw hr).marks rfl rfl rfl rfl, rfl⟩

/-! ### Written -/

/-- Cells of a row, written. -/
theorem run_storeCells_row (g o : Nat) (t : TypeId) (fz : Nat × Nat) : ∀ (vs : List Value) (i : Nat) (cur : Array Value) (w : World), w.heap[g]? = some (.cells cur t fz) → (∀ j, j < vs.length → (decide (fz.1 ≤ o + i + j) && decide (o + i + j < fz.2)) = false) → o + i + vs.length ≤ cur.size → (∀ v ∈ vs, Cell v) →
    (storeCells ⟨g, o, none⟩ vs i).run P w = .ok () (w.setRow g (cur.toList.take (o + i) ++ vs ++ cur.toList.drop (o + i + vs.length)).toArray)
  | [], i, cur, w, hg, _, _, _ => by
    simp only [storeCells, List.append_nil, List.length_nil, Nat.add_zero, List.take_append_drop, Array.toArray_toList]
    rw [setRow_self w g cur t fz hg]
    rfl
  | v :: rest, i, cur, w, hg, hfz, hl, h1 => by
    have hi : o + i < cur.size := by simp at hl; omega
    have hadd : (⟨g, o, none⟩ : Addr).add i = ⟨g, o + i, none⟩ := Addr.add_plain _ _ _
    have hcell : w.cell? ⟨g, o + i, none⟩ = some cur[o + i] := by simp [World.cell?, hg, hi]
    have hfro : w.frozen? ⟨g, o + i, none⟩ = false := by
      have := hfz 0 (by simp)
      simp only [World.frozen?, hg]
      exact this
    have hst : (store ((⟨g, o, none⟩ : Addr).add i) v).run P w = .ok () (w.setRow g (cur.setIfInBounds (o + i) v)) := by
      rw [hadd, run_store P w _ v _ (h1 v (by simp)), hcell]
      simp [hfro, setCell_eq_setRow w g (o + i) cur t fz v hg]
    have ih := run_storeCells_row g o t fz rest (i + 1) (cur.setIfInBounds (o + i) v) (w.setRow g (cur.setIfInBounds (o + i) v)) (setRow_heap w g cur _ t _ hg)
      (fun j hj => by have := hfz (j + 1) (by simp; omega); rwa [show o + (i + 1) + j = o + i + (j + 1) by omega]) (by simp at hl ⊢; omega) (fun x hx => h1 x (by simp [hx]))
    simp only [storeCells, Sem.run_bind, hst, Result.andThen_ok, ih, setRow_setRow]
    congr 3
    have e := list_seg_step cur.toList (o + i) v rest (by simp at hl ⊢; omega)
    simpa [Array.toList_setIfInBounds, Nat.add_assoc] using e

theorem All2.cells {l : List CV} {vs : List Value} (h : All2 (CR ρ) l vs) : ∀ v ∈ vs, Cell v := by
  intro v hv
  obtain ⟨i, hi⟩ := List.getElem?_of_mem hv
  have hlt : i < l.length := by
    have := (List.getElem?_eq_some_iff.1 hi).1
    rw [h.length]; exact this
  obtain ⟨b, hb, hc⟩ := h.get i l[i] (List.getElem?_eq_getElem hlt)
  rw [hi] at hb; cases hb
  exact hc.cell

/-- A row with cells laid over its own. -/
theorem RowR.laid {s : Seg} {n sz d fz : Nat} {opn : Bool} {t t' : NT d TV} {c : Array Value} {fr : Nat × Nat} (hr : RowR ρ s n sz opn fz d t c fr) {off : Nat} {l : List CV} {vs : List Value} (hv : All2 (CR ρ) l vs) (hle : off + l.length ≤ n)
    (ht : Row sz d n t' fun i => if off ≤ i ∧ i < off + l.length then l.getD (i - off) (.ref .top) else cellAt sz d t i) :
    RowR ρ s n sz opn fz d t' (c.toList.take (s.base + off) ++ vs ++ c.toList.drop (s.base + off + vs.length)).toArray fr := by
  have hroom := hr.room
  have hlen := hv.length
  have hsz : (c.toList.take (s.base + off) ++ vs ++ c.toList.drop (s.base + off + vs.length)).length = c.size := by
    simp only [List.length_append, List.length_take, List.length_drop, Array.length_toList]
    have : n + s.ext * sz ≥ n := Nat.le_add_right _ _
    omega
  refine ⟨fun i hi => ?_, ht.whole, ht.lev, ht.mult, by simp only [List.size_toArray, hsz]; exact hroom, fun h => ⟨(hr.shut h).1, (hr.shut h).2.1, by simp only [List.size_toArray, hsz]; exact (hr.shut h).2.2⟩, hr.free, hr.plain, fun h => by simp only [List.size_toArray, hsz]; exact hr.high h⟩
  rw [ht.cell i hi]
  have hgt : c.toList.length = c.size := Array.length_toList
  have hb : s.base + n ≤ c.size := by
    have : n + s.ext * sz ≥ n := Nat.le_add_right _ _
    omega
  by_cases h : off ≤ i ∧ i < off + l.length
  · rw [if_pos h]
    obtain ⟨b, hb', hc⟩ := hv.get (i - off) (l[i - off]'(by omega)) (List.getElem?_eq_getElem _)
    refine ⟨b, ?_, ?_⟩
    · simp only [List.getElem?_toArray]
      rw [List.append_assoc, List.getElem?_append_right (by rw [List.length_take]; omega), List.length_take, Nat.min_eq_left (by omega), List.getElem?_append_left (by omega), ← hb']
      congr 1; omega
    · rw [List.getD_eq_getElem?_getD, List.getElem?_eq_getElem (by omega)]; exact hc
  · rw [if_neg h]
    obtain ⟨x, hx, hc⟩ := hr.cell i hi
    refine ⟨x, ?_, hc⟩
    rw [← hx]
    simp only [List.getElem?_toArray]
    rw [← Array.getElem?_toList]
    by_cases h2 : i < off
    · rw [List.append_assoc, List.getElem?_append_left (by rw [List.length_take]; omega), List.getElem?_take_of_lt (by omega)]
    · rw [List.getElem?_append_right (by rw [List.length_append, List.length_take]; omega), List.length_append, List.length_take, Nat.min_eq_left (by omega), List.getElem?_drop]
      congr 1; omega

/-- A row is written into. -/
theorem storeRow_ok {id off s : Nat} {l : List CV} {ob : Ob} {v : AV} (h : storeRow P id off s l ob m = .ok v m') :
    ∃ el n sz opn fz d t t', ob = .row el n sz opn fz d t ∧ off + s ≤ n ∧ fz / 2 ≤ off ∧ l.length = s ∧ glb P ≤ id ∧ id < m.nx ∧ v = undefA ∧ m' = ⟨updN hd id m.H (.row el n sz opn fz d t'), m.nx, min m.rm id, min m.wm id, m.dfs⟩ ∧
      ∀ f, Row sz d n t f → Row sz d n t' fun i => if off ≤ i ∧ i < off + l.length then l.getD (i - off) (.ref .top) else f i := by
  unfold storeRow at h
  split at h
  · rename_i el n sz opn fz d t
    rw [iff_eq] at h
    split at h
    · rename_i hc
      simp only [Bool.and_eq_true, ble_iff] at hc
      have hle : off + s ≤ n := hc.1.1
      have hs : l.length = s := Nat.eq_of_beq_eq_true hc.2
      rcases layCells_ok sz d t l s off (RO.fail [235]) (fun t => turn P id (.row el n sz opn fz d t) m (.fail [24]) okU) hs with h1 | ⟨t', h1, hrow⟩
      · rw [h1] at h; cases h
      · rw [h1] at h
        rcases turn_ok' h with h2 | ⟨hg, hidx, h2⟩
        · cases h2
        · have h2 : RO.ok undefA ⟨updN hd id m.H (.row el n sz opn fz d t'), m.nx, min m.rm id, min m.wm id, m.dfs⟩ = .ok v m' := h2
          cases h2
          refine ⟨el, n, sz, opn, fz, d, t, t', rfl, hle, hc.1.2, hs, hg, hidx, rfl, rfl, fun f hf => ?_⟩
          rw [hs]; exact hrow n f hf hle
    · cases h
  · cases h

theorem Post.stored (hw : WF P m) (hr : Rel P B0 A ρ m.H w) {id : Nat} {s : Seg} (hA : A id) (hs : ρ id = some s) (hg : glb P ≤ id) {el n sz fz d : Nat} {opn : Bool} {t t' : NT d TV} {c : Array Value} {fr : Nat × Nat}
    (hob : obj m.H id = .row el n sz opn fz d t) (hb : w.heap[s.blk]? = some (.cells c el fr)) (hrr : RowR ρ s n sz opn fz d t c fr) {off : Nat} {l : List CV} {vs : List Value} (hv : All2 (CR ρ) l vs) (hle : off + l.length ≤ n)
    (ht : Row sz d n t' fun i => if off ≤ i ∧ i < off + l.length then l.getD (i - off) (.ref .top) else cellAt sz d t i) (rm wm : Nat) (dfs : List Nat) :
    Post P B0 A (fun i => i = id) ρ m w ρ ⟨updN hd id m.H (.row el n sz opn fz d t'), m.nx, rm, wm, dfs⟩ (w.setRow s.blk (c.toList.take (s.base + off) ++ vs ++ c.toList.drop (s.base + off + vs.length)).toArray) := by
  refine Post.turn hw hr hA hs hg (fun h => by rw [hob] at h; cases h) _ _ (setRow_size _ _ _) (fun b hb' => setRow_other _ _ _ _ hb') ?_ rfl rfl rfl _ _ _
  rw [setRow_heap w s.blk c _ el fr hb]
  exact ⟨_, fr, rfl, hrr.laid hv hle ht⟩

theorem run_stored {s : Seg} {n sz fz d : Nat} {opn : Bool} {t : NT d TV} {c : Array Value} {el : TypeId} {fr : Nat × Nat} (hb : w.heap[s.blk]? = some (.cells c el fr)) (hrr : RowR ρ s n sz opn fz d t c fr) {off : Nat} {l : List CV} {vs : List Value}
    (hv : All2 (CR ρ) l vs) (hle : off + l.length ≤ n + s.ext * sz) (hfz : fz / 2 ≤ off) : (storeCells ⟨s.blk, s.base + off, none⟩ vs).run P w = .ok () (w.setRow s.blk (c.toList.take (s.base + off) ++ vs ++ c.toList.drop (s.base + off + vs.length)).toArray) := by
  have hlen := hv.length
  have hroom := hrr.room
  exact run_storeCells_row s.blk (s.base + off) el fr vs 0 c w hb (fun j hj => by
    have := hrr.free (off + j) (by omega) (by omega)
    rw [← Nat.add_assoc] at this; exact this) (by omega) hv.cells

theorem storeD_go {o : Oper} {t : TypeId} {x y : Operand} (ho : o.op = .store t x y) {D : Nat} {c : Ctx} {e : NT D AV} {v : AV} (h : (storeD P t x y (D := D)).f c e m = .ok v m') :
    ∃ id off rm ob, (evO P x).f e = .c (.ref (.ptr id off)) ∧ rm ≤ m.rm ∧ (rm ≤ id ∨ id < glb P) ∧ (rm = m.rm ∨ rm = id) ∧ glb P ≤ id ∧ id < m.nx ∧ v = undefA ∧ m' = ⟨updN hd id m.H ob, m.nx, min rm id, min m.wm id, m.dfs⟩ ∧
      ∀ (B0 : Nat) (A : Nat → Prop) (N : Nat) (ρ : Rho) (a : Act) (w : World), WF P m → Rel P B0 A ρ m.H w → ENV ρ N D e a.tmps → A id → ∃ w', (execOp a.eval o).run P w = .ok .skip w' ∧ Post P B0 A (fun i => i = id) ρ m w ρ m' w' := by
  unfold storeD at h
  split at h
  · rename_i s hS
    have h : storeA P s ((evO P x).f e) ((evO P y).f e) m = .ok v m' := h
    unfold storeA at h
    split at h
    · rename_i r hx
      rcases cellsA_ok h with ⟨l, h, hl⟩ | h
      · unfold storeR at h
        split at h
        · rename_i id off _
          obtain ⟨rm, hrm, hid, hrm', h⟩ := look_ok' h
          obtain ⟨el, n, sz, opn, fz, d, tr, tr', hob, hle, hfz, hs, hg, hidx, hv, hm, hrow⟩ := storeRow_ok h
          refine ⟨id, off, rm, _, hx, hrm, hid, hrm', hg, hidx, hv, hm, fun B0 A N ρ a w hw hr he hA => ?_⟩
          have hxv := he.eval hr.glob x
          rw [hx] at hxv
          obtain ⟨sg, hsg, hxa⟩ := hxv
          have hyv := hl ρ _ (he.eval hr.glob y)
          have hat := hr.rows _ _ hsg (.inl hA)
          rw [hob] at hat
          obtain ⟨cs, fr, hb, hrr⟩ := hat
          have hst := run_stored (P := P) hb hrr hyv (by rw [hs]; have := Nat.le_add_right n (sg.ext * sz); omega) hfz
          subst hm
          refine ⟨_, ?_, Post.stored hw hr hA hsg hg hob hb hrr hyv (by rw [hs]; exact hle) (hrow _ hrr.row) _ _ _⟩
          unfold execOp
          rw [ho]
          have hsz : (a.eval y).cells.size = s := by rw [← Array.length_toList, ← hyv.length, hs]
          simp only [Instr.storeAt, hxa, Instr.sureAddr, Sem.run_bind, Sem.run_pure, Result.andThen_ok, storeVar, run_sizeT hS, hsz, ne_eq, not_true_eq_false, if_false, hst]
        · cases h
      · cases h
    · cases h
  · cases h

theorem storeD_ok {o : Oper} {t : TypeId} {x y : Operand} (ho : o.op = .store t x y) {D : Nat} : OpOK P o (storeD P t x y (D := D)) := by
  intro c e m v m' h B0 A N ρ a w hw hin hr he hf
  obtain ⟨id, off, rm, ob, hx, hrm, hid, _, hg, _, rfl, rfl, hgo⟩ := storeD_go ho h
  obtain ⟨w', hy, hp⟩ := hgo B0 A N ρ a w hw hr he (hin id (.inl (Nat.min_le_right _ _)))
  exact ⟨undef, w', ρ, .inr ⟨rfl, hy⟩, AR.undef ρ, hp.more (fun i hi => by rw [hi]; exact Nat.min_le_right _ _), Nat.le_trans (Nat.min_le_left _ _) hrm, Nat.min_le_left _ _, rfl⟩

theorem storeD_ok1 {o : Oper} {t : TypeId} {x y : Operand} (ho : o.op = .store t x y) {D : Nat} : OpOK1 P o (storeD P t x y (D := D)) := by
  intro c e m v m' hrm0 hwm0 h B0 A N ρ a w hw hin hr he hf
  obtain ⟨id, off, rm, ob, hx, hrm, hid, hrm', hg, _, rfl, rfl, hgo⟩ := storeD_go ho h
  have hlt := ptr_cap hr he hx
  have h1 : min rm id = id := by rcases hrm' with h2 | h2 <;> omega
  have h2 : min m.wm id = id := by omega
  have hA : A id := by
    rcases Nat.lt_or_ge id m.nx with h3 | h3
    · have := hin.one
      simp only [h1] at this
      exact this h3
    · exact hin.new _ h3
  obtain ⟨w', hy, hp⟩ := hgo B0 A N ρ a w hw hr he hA
  exact ⟨undef, w', ρ, .inr ⟨rfl, hy⟩, AR.undef ρ, hp.more (fun i hi => by rw [hi]; exact h2.symm), rfl⟩

end Go.CE
end WJ

/- Rows made, functions as values. No program is named. -/
noncomputable section WK
namespace Go.CE
open Go

variable {P : Program} {B0 : Nat} {A W W' : Nat → Prop} {ρ ρ' ρ'' : Rho} {m m' m'' : M} {w w' w'' : World}

/-! ### Zeros, over and over -/

/-- A cell that is worked out as it stands. -/
def PlainC (c : CV) : Prop := ∀ (β : Type) (k : CV → β) (bad : β), forceCell c k bad = k c

theorem PlainC.of {v : Value} {c : CV} (h : ofCV v = some c) : PlainC c := by
  intro β k bad
  unfold ofCV at h
  split at h <;> cases h <;> simp only [forceCell, inum_eq, num_eq, forceStr_eq]
  rename_i b
  cases b <;> rfl

theorem PlainC.all : ∀ {l : List Value} {cs : List CV}, ofCVs l = some cs → ∀ c ∈ cs, PlainC c
  | [], cs, h, c, hc => by simp [ofCVs] at h; subst h; cases hc
  | v :: r, cs, h, c, hc => by
    unfold ofCVs at h
    split at h
    · rename_i x l h1 h2
      cases h
      rcases List.mem_cons.1 hc with rfl | hc
      · exact PlainC.of h1
      · exact PlainC.all h2 c hc
    · cases h

theorem forceCells_plain {β : Type} : ∀ (l : List CV) (bad : β) (k : List CV → β), (∀ c ∈ l, PlainC c) → forceCells l bad k = k l
  | [], _, _, _ => rfl
  | x :: l, bad, k, h => by
    have e : forceCells (x :: l) bad k = forceCell x (fun x => forceCells l bad fun r => k (x :: r)) bad := rfl
    rw [e, h x (by simp) β]
    exact forceCells_plain l bad _ fun c hc => h c (by simp [hc])

theorem zeroT_plain {t : TypeId} {z : List CV} (h : zeroT P t = some z) : ∀ c ∈ z, PlainC c := by
  unfold zeroT at h
  split at h
  · split at h
    · exact PlainC.all h
    · cases h
  · cases h

theorem reps_mem {z : List CV} {c : CV} : ∀ (n : Nat), c ∈ reps z n → c ∈ z
  | 0, h => by cases h
  | n + 1, h => by
    have h : c ∈ z ++ reps z n := h
    rcases List.mem_append.1 h with h | h
    · exact h
    · exact reps_mem n h

theorem repsF_eq {t : TypeId} {z : List CV} (h : zeroT P t = some z) (n : Nat) : (repsF z n).l = reps z n := by
  unfold repsF
  rw [forceCells_plain _ _ _ fun c hc => zeroT_plain h c (reps_mem n hc)]

theorem reps_len (z : List CV) : ∀ n, (reps z n).length = n * z.length
  | 0 => by rw [Nat.zero_mul]; rfl
  | n + 1 => by
    show (z ++ reps z n).length = _
    rw [List.length_append, reps_len z n, Nat.succ_mul]; omega

theorem reps_get (z : List CV) (hz : 0 < z.length) : ∀ (n i : Nat), i < n * z.length → (reps z n)[i]? = z[i % z.length]?
  | 0, i, h => by simp at h
  | n + 1, i, h => by
    show (z ++ reps z n)[i]? = _
    rw [List.getElem?_append]
    by_cases hi : i < z.length
    · rw [if_pos hi, Nat.mod_eq_of_lt hi]
    · rw [if_neg hi, reps_get z hz n _ (by rw [Nat.succ_mul] at h; omega)]
      congr 1
      rw [Nat.mod_eq_sub_mod (Nat.le_of_not_lt hi)]

theorem reps_ok {z : List CV} {zc : Array Value} (h : All2 (CR ρ) z zc.toList) (hz : 0 < z.length) (n k : Nat) (hk : k = n * z.length) : All2 (CR ρ) (reps z n) ((Array.range k).map (zc[· % zc.size]!)).toList := by
  subst hk
  have hl : z.length = zc.size := by rw [h.length, Array.length_toList]
  refine All2.of_get (by simp [reps_len]) fun i a b ha hb => ?_
  have hi : i < n * z.length := by
    have := (List.getElem?_eq_some_iff.1 ha).1
    rwa [reps_len] at this
  rw [reps_get z hz n i hi] at ha
  obtain ⟨y, hy, hc⟩ := h.get _ _ ha
  have : b = y := by
    simp only [Array.toList_map, Array.toList_range, List.getElem?_map, List.getElem?_range hi, Option.map_some] at hb
    cases hb
    rw [Array.getElem?_toList, hl] at hy
    rw [getElem!_def, hy]
  rw [this]; exact hc

theorem run_info {t : TypeId} {s : Nat} (h : sizeT P t = some s) : ∃ i, P.info? t = some i ∧ i.size = s := sizeT_some h

/-- Places of the elements of a row. -/
theorem buildSliceD_ok {o : Oper} {t : TypeId} {len : Nat} {parts : Array (Nat × Operand)} (ho : o.op = .buildSlice t len parts) {D : Nat} : OpOK P o (buildSliceD P t len parts (D := D)) := by
  unfold buildSliceD
  split
  · rename_i elem hu
    split
    · rename_i s z hs hz
      unfold buildSliceL
      rw [iff_eq]
      split
      · rename_i hc
        simp only [Bool.and_eq_true, ble_iff] at hc
        have h1 : 1 ≤ s := hc.1.1
        have h2 : z.length = s := Nat.eq_of_beq_eq_true hc.1.2
        have h3 : len * s ≤ 16777216 := hc.2
        intro c e m v m' h B0 A N ρ a w hw _ hr he hf
        have h : (layParts P (.fail [38]) (partsRow s parts.toList)).f e (repsF z len).l (fun cs => rowOf elem s cs (.fail [236]) fun ob => fresh ob m (.fail [39]) (okSlc len len)) = .ok v m' := h
        rw [repsF_eq hz] at h
        obtain ⟨zv, hzv, hzr⟩ := run_zeroT hz w
        obtain ⟨cs', cells', hk, hfl, hall⟩ := layParts_ok (fun x => he.eval hr.glob x) (fun i => some (i * s, s)) parts.toList _ _ _ (placed_row s _) h (reps_ok (hzr ρ) (by omega) len (len * s) (by rw [h2]))
        rcases rowOf_OR elem s cs' (.fail [236]) (fun ob => fresh ob m (.fail [39]) (okSlc len len)) with h4 | ⟨ob, h4, hob⟩
        · rw [h4] at hk; cases hk
        · rw [h4] at hk
          rcases fresh_ok hk with hk | ⟨hnx, hk⟩
          · cases hk
          · obtain ⟨rfl, rfl⟩ := okSlc_eq hk
            have hρ := hf.one rfl
            refine ⟨.slice (some ⟨w.heap.size, 0, none⟩) len len, _, _, .inl ?_, Done.fresh hw hr hnx hρ (x := 0) (hob _ _ cells' (All2.mono (fun _ _ => CR.mono (ins_ext hρ)) hall)) ⟨_, ins_self _ _, rfl⟩⟩
            unfold execOp
            rw [ho]
            simp only [Instr.buildSlice, Sem.run_bind, run_underlying hu, Result.andThen_ok, run_sizeT hs, Sem.run_ite]
            rw [if_neg (by omega)]
            by_cases h0 : len * s = 0
            · rw [h0] at hfl
              simp only [h0, if_true, Sem.run_pure, Result.andThen_ok, parts_map]
              rw [Array.range_zero', Array.map_empty] at hfl ⊢
              simp only [hfl, Sem.run_bind, run_newRow, Result.andThen_ok, Sem.run_pure]
            · simp only [h0, if_false, Sem.run_bind, hzv, Sem.run_pure, Result.andThen_ok, parts_map, hfl, run_newRow]
      · exact OpOK.no
    · exact OpOK.no
  · exact OpOK.no

theorem makeSliceD_ok {o : Oper} {t : TypeId} {l c : Operand} (ho : o.op = .makeSlice t l c) {D : Nat} : OpOK P o (makeSliceD P t l c (D := D)) := by
  unfold makeSliceD
  split
  · rename_i elem hu
    split
    · rename_i i z hi hz
      unfold makeSliceL
      rw [iff_eq]
      split
      · rename_i hc
        simp only [Bool.and_eq_true, ble_iff] at hc
        have h1 : 1 ≤ i.size := hc.1.1
        have h2 : z.length = i.size := Nat.eq_of_beq_eq_true hc.1.2
        have h3 : i.bytes ≤ 1000000 := hc.2
        intro cx e m v m' h B0 A N ρ a w hw _ hr he hf
        have h : natOf ((evO P l).f e) (.fail [113]) (fun l => natOf ((evO P c).f e) (.fail [112]) fun c => makeSl elem i.size z m l c) = .ok v m' := h
        rcases natOf_ok h with ⟨jl, nl, hl, h⟩ | h
        · rcases natOf_ok h with ⟨jc, nc, hcc, h⟩ | h
          · unfold makeSl at h
            rw [iff_eq] at h
            split at h
            · rename_i hle
              simp only [Bool.and_eq_true, ble_iff] at hle
              rw [repsF_eq hz] at h
              rcases rowOf_OR elem i.size (reps z nc) (.fail [237]) (fun ob => fresh ob m (.fail [110]) (okSlc nl nc)) with h4 | ⟨ob, h4, hob⟩
              · rw [h4] at h; cases h
              · rw [h4] at h
                rcases fresh_ok h with h | ⟨hnx, h⟩
                · cases h
                · obtain ⟨rfl, rfl⟩ := okSlc_eq h
                  have hρ := hf.one rfl
                  obtain ⟨zv, hzi, hzr⟩ : ∃ zv, i.zero = some zv ∧ ∀ ρ, All2 (CR ρ) z zv.cells.toList := by
                    unfold zeroT at hz
                    rw [hi] at hz
                    dsimp only at hz
                    split at hz
                    · rename_i zv hzv
                      exact ⟨zv, hzv, fun ρ => ofCVs_ok ρ hz⟩
                    · cases hz
                  have hlv := he.eval hr.glob l
                  rw [hl] at hlv
                  have hlv : a.eval l = .int jl (Int.ofNat nl) := hlv
                  have hcv := he.eval hr.glob c
                  rw [hcc] at hcv
                  have hcv : a.eval c = .int jc (Int.ofNat nc) := hcv
                  have hbc : i.bytes * nc ≤ 1000000 * 1000000 := Nat.mul_le_mul h3 hle.2
                  have hrun := run_make (P := P) w t elem i zv hu hi hzi jl jc (Int.ofNat nl) (Int.ofNat nc) (Int.natCast_nonneg _) (by show (nl : Int) ≤ nc; omega)
                    (by have : ((i.bytes * nc : Nat) : Int) ≤ 281474976710656 := by omega
                        rwa [Int.natCast_mul] at this) (by show (nc : Int) ≤ _; omega)
                  refine ⟨.slice (some ⟨w.heap.size, 0, none⟩) nl nc, _, _, .inl ?_, Done.fresh hw hr hnx hρ (x := 0) (hob _ _ (madeCells zv.cells (nc * i.size)) ?_) ⟨_, ins_self _ _, rfl⟩⟩
                  · unfold execOp
                    rw [ho]
                    simp only [Sem.run_bind, hlv, hcv, hrun, Result.andThen_ok, Sem.run_pure]
                    rfl
                  · exact reps_ok (hzr _) (by omega) nc _ (by rw [h2])
            · cases h
          · cases h
        · cases h
      · exact OpOK.no
    · exact OpOK.no
  · exact OpOK.no

/-! ### Maps made -/

theorem okMap_eq {id : Nat} {v : AV} (h : okMap id m = .ok v m') : v = .c (.ref (.map id)) ∧ m' = m := by cases h; exact ⟨rfl, rfl⟩

theorem makeMapD_ok {o : Oper} {t : TypeId} {r : Option Operand} (ho : o.op = .makeMap t r) {D : Nat} : OpOK P o (makeMapD P t r (D := D)) := by
  have main : ∀ (k : Nat) (m : M) (v : AV) (m' : M), fresh (.mp [] 0) m (.fail [k]) okMap = .ok v m' → ∀ (B0 : Nat) (A : Nat → Prop) (ρ : Rho) (a : Act) (w : World), WF P m → Rel P B0 A ρ m.H w → Fresh ρ m m' →
      (execOp a.eval o).run P w = .ok (.value (.map (some w.heap.size))) (w.alloc (.map #[] 0)) → ∃ x w' ρ', Runs P o a w x w' ∧ Done P B0 A ρ m w v m' x w' ρ' := by
    intro k m v m' h B0 A ρ a w hw hr hf hrun
    rcases fresh_ok h with h | ⟨hnx, h⟩
    · cases h
    · obtain ⟨rfl, rfl⟩ := okMap_eq h
      have hρ := hf.one rfl
      exact ⟨_, _, _, .inl hrun, Done.fresh hw hr hnx hρ (x := 0) ⟨#[], rfl, trivial⟩ ⟨_, ins_self _ _, rfl⟩⟩
  unfold makeMapD
  split
  · intro c e m v m' h B0 A N ρ a w hw _ hr he hf
    refine main 88 m v m' h B0 A ρ a w hw hr hf ?_
    unfold execOp
    rw [ho]
    rfl
  · rename_i x
    split
    · rename_i kt et hu
      intro c e m v m' h B0 A N ρ a w hw _ hr he hf
      have h : hintA ((evO P x).f e) m = .ok v m' := h
      unfold hintA at h
      split at h
      · rename_i j n hx
        refine main 89 m v m' h B0 A ρ a w hw hr hf ?_
        have hxv := he.eval hr.glob x
        rw [hx] at hxv
        have hxv : a.eval x = .int j n := hxv
        unfold execOp
        rw [ho]
        simp only [Option.map_some, hxv, Instr.makeMap, Sem.run_bind, run_underlying hu, Result.andThen_ok, asInt, asIntOf, Sem.run_pure, run_newObj]
        rfl
      · cases h
    · exact OpOK.no

/-! ### Functions as values -/

theorem ptrs_ok {D : Nat} {e : NT D AV} {ev : Operand → Value} (hx : ∀ x, AR ρ ((evO P x).f e) (ev x)) : ∀ (l : List Operand) (k : List (Nat × Nat) → RO) {v : AV}, (ptrs P l).f e k = .ok v m' → ∃ ps, k ps = .ok v m' ∧ All2 (PR ρ) ps (l.map ev)
  | [], k, v, h => ⟨[], h, trivial⟩
  | x :: r, k, v, h => by
    have h : (match (evO P x).f e with
      | .c (.ref (.ptr id off)) => (ptrs P r).f e fun l => k ((id, off) :: l)
      | _ => .fail [85]) = RO.ok v m' := h
    split at h
    · rename_i id off hxe
      obtain ⟨ps, h1, h2⟩ := ptrs_ok hx r _ h
      have := hx x
      rw [hxe] at this
      exact ⟨_, h1, this, h2⟩
    · cases h

theorem makeFuncD_ok {o : Oper} {fn : Fn} {first caps : Array Operand} (ho : o.op = .makeFunc fn first caps) {D : Nat} : OpOK P o (makeFuncD P fn first caps (D := D)) := by
  unfold makeFuncD
  split
  · rename_i f
    intro c e m v m' h B0 A N ρ a w hw _ hr he hf
    have h : (ptrs P first.toList).f e (fun a => (ptrs P caps.toList).f e fun b => .ok (.c (.ref (.fn f a b))) m) = RO.ok v m' := h
    obtain ⟨ps, h, hps⟩ := ptrs_ok (fun x => he.eval hr.glob x) _ _ h
    obtain ⟨qs, h, hqs⟩ := ptrs_ok (fun x => he.eval hr.glob x) _ _ h
    cases h
    refine ⟨.func (.func f) (first.map a.eval) (caps.map a.eval), w, ρ, .inl ?_, Done.pure hw hr ⟨_, _, rfl, ?_, ?_⟩⟩
    · unfold execOp
      rw [ho]
      rfl
    · rw [Array.toList_map]; exact hps
    · rw [Array.toList_map]; exact hqs
  · exact OpOK.no

/-! ### Lengths -/

theorem okN_eq {n : Nat} {v : AV} (h : okN n m = .ok v m') : v = .c (.int .i64 (.ofNat n)) ∧ m' = m := by
  unfold okN at h
  rw [num_eq] at h
  cases h; exact ⟨rfl, rfl⟩

theorem execBuiltin {o : Oper} {c : Call} {b : Builtin} (ho : o.op = .call c) (hc : c.callee = .builtin b) (e : Operand → Value) :
    (execOp e o).run P w = (builtin b c.argTypes o.type (c.args.map fun | .const _ => true | _ => false) (c.args.map e)).run P w := by
  unfold execOp
  rw [ho]
  simp only [resolve, hc]
  rfl

theorem lenD_ok {o : Oper} {c : Call} {t : TypeId} {x : Operand} (ho : o.op = .call c) (hc : c.callee = .builtin .len) (ha : c.args.toList = [x]) (ht : c.argTypes[0]? = some t) {D : Nat} : OpOK P o (lenD P t x (D := D)) := by
  have hargs : c.args = #[x] := Array.toList_inj.1 (by rw [ha])
  have run : ∀ (a : Act) (n : Nat) (w : World), (Builtin.len_ c.argTypes o.type #[a.eval x]).run P w = .ok (goInt n) w → (execOp a.eval o).run P w = .ok (.value (.int .i64 (Int.ofNat n))) w := fun a n w h => by
    rw [execBuiltin ho hc, hargs]
    simp only [builtin, Sem.run_bind, List.map_toArray, List.map_cons, List.map_nil, h, Result.andThen_ok, Sem.run_pure]
    rfl
  unfold lenD
  split
  · rename_i hu
    refine OpOK.val fun cx e m v m' h => ?_
    have h : lenStr ((evO P x).f e) m = .ok v m' := h
    unfold lenStr at h
    split at h
    · rename_i s hs
      obtain ⟨rfl, rfl⟩ := okN_eq h
      refine ⟨rfl, fun ρ a w hx => ⟨_, run a s.length w ?_, rfl⟩⟩
      have := hx x
      rw [hs] at this
      have hv : a.eval x = .string (bytesOf s) := this.1
      rw [hv]
      simp [Builtin.len_, ht, run_underlying hu, bytesOf_size]
    · cases h
  · rename_i n el hu
    refine OpOK.val fun cx e m v m' h => ?_
    obtain ⟨rfl, rfl⟩ := okN_eq h
    refine ⟨rfl, fun ρ a w hx => ⟨_, run a n w ?_, rfl⟩⟩
    simp [Builtin.len_, ht, run_underlying hu]
  · rename_i el hu
    refine OpOK.val fun cx e m v m' h => ?_
    have h : lenSlc ((evO P x).f e) m = .ok v m' := h
    unfold lenSlc at h
    split at h
    · rename_i id off len cap hs
      obtain ⟨rfl, rfl⟩ := okN_eq h
      refine ⟨rfl, fun ρ a w hx => ⟨_, run a len w ?_, rfl⟩⟩
      have := hx x
      rw [hs] at this
      obtain ⟨sg, _, hv⟩ := this
      rw [hv]
      simp [Builtin.len_, ht, run_underlying hu]
    · rename_i hs
      obtain ⟨rfl, rfl⟩ := okN_eq h
      refine ⟨rfl, fun ρ a w hx => ⟨_, run a 0 w ?_, rfl⟩⟩
      have := hx x
      rw [hs] at this
      have hv : a.eval x = .slice none 0 0 := this
      rw [hv]
      simp [Builtin.len_, ht, run_underlying hu]
    · rename_i hs
      obtain ⟨rfl, rfl⟩ := okN_eq h
      refine ⟨rfl, fun ρ a w hx => ⟨_, run a 0 w ?_, rfl⟩⟩
      have := hx x
      rw [hs] at this
      obtain ⟨b, q, hv⟩ := this
      rw [hv]
      simp [Builtin.len_, ht, run_underlying hu]
    · rename_i id off len cap hs
      obtain ⟨rfl, rfl⟩ := okN_eq h
      refine ⟨rfl, fun ρ a w hx => ⟨_, run a len w ?_, rfl⟩⟩
      have := hx x
      rw [hs] at this
      obtain ⟨sg, _, hv⟩ := this
      rw [hv]
      simp [Builtin.len_, ht, run_underlying hu]
    · rename_i hs
      obtain ⟨rfl, rfl⟩ := okN_eq h
      refine ⟨rfl, fun ρ a w hx => ⟨_, run a 0 w ?_, rfl⟩⟩
      have := hx x
      rw [hs] at this
      obtain ⟨b, hv⟩ := this
      rw [hv]
      simp [Builtin.len_, ht, run_underlying hu]
    · cases h
  · rename_i k el hu
    intro cx e m v m' h B0 A N ρ a w hw hin hr he hf
    have hx := he.eval hr.glob x
    have h : lenMap P ((evO P x).f e) m = .ok v m' := h
    unfold lenMap at h
    split at h
    · rename_i hs
      obtain ⟨rfl, rfl⟩ := okN_eq h
      refine ⟨_, w, ρ, .inl (run a 0 w ?_), Done.pure hw hr rfl⟩
      rw [hs] at hx
      have hv : a.eval x = .map none := hx
      rw [hv]
      simp [Builtin.len_, ht, run_underlying hu]
    · rename_i id hs
      obtain ⟨rm, hrm, hid, h⟩ := look_ok h
      unfold lenOb at h
      split at h
      · rename_i es clock hob
        obtain ⟨rfl, rfl⟩ := okN_eq h
        rw [hs] at hx
        obtain ⟨sg, hsg, hv⟩ := hx
        have hat := hr.at hin hsg hid
        rw [hob] at hat
        obtain ⟨ents, hb, hall⟩ := hat
        refine ⟨_, w, ρ, .inl (run a es.length w ?_), Done.looked hw hr hrm rfl⟩
        rw [hv]
        have hl : ents.size = es.length := by rw [hall.length, Array.length_toList]
        simp [Builtin.len_, ht, run_underlying hu, getObj, Sem.run, hb, hl]
      · cases h
    · cases h
  · exact OpOK.no

end Go.CE
end WK

/- Conversions, pieces of rows, maps. No program is named. -/
noncomputable section WL
namespace Go.CE
open Go

variable {P : Program} {B0 : Nat} {A W W' : Nat → Prop} {ρ ρ' ρ'' : Rho} {m m' m'' : M} {w w' w'' : World}

/-! ### Texts and cells of bytes -/

def u8 (x : Nat) : CV := .int .u8 (.ofNat x)

theorem byteCells_eq {β : Type} (s : List Nat) (k : List CV → β) : byteCells s k = k (s.map u8) := by
  induction s generalizing k with
  | nil => rfl
  | cons x s ih => exact ih fun r => k (.int .u8 (.ofNat x) :: r)

theorem byteOfC_some {β : Type} {c : CV} {bad : β} {k : Nat → β} {r : β} (h : byteOfC c bad k = r) : bad = r ∨ ∃ x, c = u8 x ∧ x ≤ 255 ∧ k x = r := by
  unfold byteOfC at h
  split at h
  · rw [iff_ble] at h
    split at h
    · rename_i x hx; exact .inr ⟨x, rfl, hx, h⟩
    · exact .inl h
  · exact .inl h

theorem cellBytes_ok {β : Type} (bad : β) : ∀ (l : List CV) (k : List Nat → β), cellBytes bad l k = bad ∨ ∃ s, cellBytes bad l k = k s ∧ l = s.map u8 ∧ ∀ c ∈ s, c < 256
  | [], k => .inr ⟨[], rfl, rfl, by simp⟩
  | c :: l, k => by
    have e : cellBytes bad (c :: l) k = byteOfC c bad fun x => cellBytes bad l fun r => k (x :: r) := rfl
    rw [e]
    rcases byteOfC_some (c := c) (bad := bad) (k := fun x => cellBytes bad l fun r => k (x :: r)) rfl with h | ⟨x, hc, hx, h⟩
    · exact .inl h.symm
    · rw [← h]
      rcases cellBytes_ok bad l (fun r => k (x :: r)) with h2 | ⟨s, h2, h3, h4⟩
      · exact .inl h2
      · refine .inr ⟨x :: s, h2, by rw [hc, h3]; rfl, fun c hc' => ?_⟩
        rcases List.mem_cons.1 hc' with rfl | hc'
        · omega
        · exact h4 c hc'

/-- A text's bytes, as cells of the model. -/
def byteVs (s : List Nat) : List Value := (s.map UInt8.ofNat).map fun b => Value.int .u8 b.toNat

/-- And zeros behind them. -/
def byteRow (s : List Nat) (r : Nat) : Array Value := (byteVs s ++ List.replicate r (Value.int .u8 0)).toArray

theorem bytes_cells (ρ : Rho) : ∀ (s : List Nat), (∀ c ∈ s, c < 256) → All2 (CR ρ) (s.map u8) (byteVs s)
  | [], _ => trivial
  | x :: s, h => ⟨by
      show Value.int .u8 ((UInt8.ofNat x).toNat : Int) = .int .u8 (Int.ofNat x)
      rw [UInt8_back (h x (by simp))]; rfl, bytes_cells ρ s fun c hc => h c (by simp [hc])⟩

theorem cells_bytes {vs : List Value} : ∀ {s : List Nat}, All2 (CR ρ) (s.map u8) vs → vs = (s.map Int.ofNat).map (Value.int .u8)
  | [], h => by
    cases vs with
    | nil => rfl
    | cons _ _ => exact h.elim
  | x :: s, h => by
    cases vs with
    | nil => exact h.elim
    | cons v vs =>
      obtain ⟨h1, h2⟩ := h
      have h1 : v = .int .u8 (Int.ofNat x) := h1
      rw [h1, cells_bytes h2]; rfl

theorem push_bytes : ∀ (s : List Nat) (b : ByteArray), (s.map Int.ofNat).foldl (fun r n => r.push (UInt8.ofNat n.toNat)) b = b ++ bytesOf s
  | [], b => by
    apply ByteArray.ext
    simp [bytesOf]
  | x :: s, b => by
    simp only [List.map_cons, List.foldl_cons]
    rw [push_bytes s]
    apply ByteArray.ext
    apply Array.ext'
    simp [bytesOf]

/-! ### Conversions -/

theorem exec_convert {o : Oper} {src dst : TypeId} {x : Operand} (ho : o.op = .convert src dst x) (e : Operand → Value) {y : Value} {w w' : World} (h : (convert src dst (e x)).run P w = .ok y w') : (execOp e o).run P w = .ok (.value y) w' := by
  unfold execOp
  rw [ho]
  simp only [Sem.run_bind, h, Result.andThen_ok, Sem.run_pure]

/-- What a text is made into. -/
theorem run_text_bytes (el : TypeId) (s : List Nat) (w : World) : ∃ r, (Conv.stringToBytes el (bytesOf s)).run P w = .ok (.slice (some ⟨w.heap.size, 0, none⟩) s.length (s.length + r))
    (w.drew.alloc (.cells (byteRow s r) el (s.length + r, s.length + r + 1))) := by
  refine ⟨grownCap w s.length 0 el - s.length, ?_⟩
  have hge := grownCap_ge w s.length 0 el
  have hcap : s.length + (grownCap w s.length 0 el - s.length) = grownCap w s.length 0 el := by omega
  rw [hcap]
  have hsz : (bytesOf s).size = s.length := bytesOf_size s
  have hch : (choose (.appendCap s.length 0 el)).run P w = .ok (grownCap w s.length 0 el) w.drew := by
    rw [run_choose]; rfl
  have hcells : (bytesOf s).data.map (fun b => Value.int .u8 b.toNat) ++ Array.replicate (grownCap w s.length 0 el - s.length) (.int .u8 0) = byteRow s (grownCap w s.length 0 el - s.length) := by
    apply Array.ext'
    simp [bytesOf, byteRow, byteVs]
  simp only [Conv.stringToBytes, hsz, Sem.run_bind, hch, Result.andThen_ok, hcells, run_newRow, markStringish]
  generalize hc : byteRow s (grownCap w s.length 0 el - s.length) = c
  have hcs : c.size = grownCap w s.length 0 el := by rw [← hc]; simp [byteRow, byteVs]; omega
  have hsh : (w.drew.alloc (.cells c el)).shape? w.drew.heap.size = some (el, c.size) := by
    unfold World.shape? World.alloc
    rw [Array.getElem?_push_size]
  simp only [run_shape, hsh, Result.andThen_ok, run_freeze, Sem.run_pure]
  congr 1
  simp only [World.freeze, World.alloc]
  rw [if_neg (by decide)]
  congr 1
  apply Array.ext
  · simp
  · intro i h1 h2
    simp only [Array.getElem_modify, Array.getElem_push]
    have hlt : i < w.heap.size + 1 := by
      have := h2
      rw [Array.size_push] at this
      exact this
    rcases Nat.lt_or_eq_of_le (Nat.le_of_lt_succ hlt) with hi | hi
    · simp [hi, Nat.ne_of_gt hi]
    · subst hi
      simp [hcs]

theorem mark_heap (w : World) {b : Nat} {cs : Array Value} {el : TypeId} {fr : Nat × Nat} (hb : w.heap[b]? = some (.cells cs el fr)) :
    (w.freeze ⟨b, cs.size, none⟩ 1).heap[b]? = some (.cells cs el (if fr.1 == fr.2 then (cs.size, cs.size + 1) else (min fr.1 cs.size, max fr.2 (cs.size + 1)))) ∧ (w.freeze ⟨b, cs.size, none⟩ 1).heap.size = w.heap.size ∧
      (∀ b', b' ≠ b → (w.freeze ⟨b, cs.size, none⟩ 1).heap[b']? = w.heap[b']?) ∧ (w.freeze ⟨b, cs.size, none⟩ 1).tape = w.tape ∧ (w.freeze ⟨b, cs.size, none⟩ 1).os = w.os ∧ (w.freeze ⟨b, cs.size, none⟩ 1).output = w.output := by
  unfold World.freeze
  rw [if_neg (by decide)]
  refine ⟨?_, by simp, fun b' hb' => ?_, rfl, rfl, rfl⟩
  · simp only [Array.getElem?_modify]
    rw [if_pos trivial, hb]
    rfl
  · simp only [Array.getElem?_modify]
    rw [if_neg (fun e => hb' e.symm)]

theorem emp_ok {b : Prop} [Decidable b] (a : Addr) (f : Addr → Addr) (c : Nat) : ∃ a' c', Value.slice (if b then some a else (some a).map f) 0 c = .slice (some a') 0 c' := by
  split <;> exact ⟨_, _, rfl⟩

theorem convertD_ok {o : Oper} {src dst : TypeId} {x : Operand} (ho : o.op = .convert src dst x) {D : Nat} : OpOK P o (convertD P o src dst x (D := D)) := by
  have hsel : ∀ cs b, o.op ≠ .select cs b := fun cs b h => by rw [ho] at h; cases h
  unfold convertD
  split
  · rename_i k0 k hs hd
    refine OpOK.val fun cx e m v m' h => ?_
    have h : convInt k ((evO P x).f e) m = .ok v m' := h
    unfold convInt at h
    split at h
    · rename_i j n hx
      rw [wrapI_eq] at h
      cases h
      refine ⟨rfl, fun ρ a w hv => ⟨.int k (k.wrap n), exec_convert ho _ ?_, rfl⟩⟩
      have := hv x
      rw [hx] at this
      have hxv : a.eval x = .int j n := this
      rw [hxv]
      simp [convert, run_underlying hs, run_underlying hd, Conv.intToInt]
    · cases h
  · rename_i hs hd
    refine OpOK.val fun cx e m v m' h => ?_
    have h : convStr ((evO P x).f e) m = .ok v m' := h
    unfold convStr at h
    split at h
    · rename_i s hx
      cases h
      refine ⟨rfl, fun ρ a w hv => ⟨a.eval x, exec_convert ho _ ?_, by have := hv x; rw [hx] at this; exact this⟩⟩
      have := hv x
      rw [hx] at this
      have hxv : a.eval x = .string (bytesOf s) := this.1
      rw [hxv]
      simp [convert, run_underlying hs, run_underlying hd]
    · cases h
  · rename_i el hs hd
    split
    · rename_i hel hinf
      intro cx e m v m' h B0 A N ρ a w hw hin hr he hf
      have h : convBytes el ((evO P x).f e) m = .ok v m' := h
      unfold convBytes at h
      split at h
      · rename_i s hx
        rw [byteCells_eq, bare_eq] at h
        simp only [num_eq, iff_ble] at h
        split at h
        · rename_i hcap
          obtain ⟨t, h1, h2⟩ := bld_ok topT (lev (s.map u8).length) ((s.map u8).map TV.c) (fun t _ => fresh (.row el (s.map u8).length 1 true 0 (lev (s.map u8).length) t) m (.fail [77]) (okSlc (s.map u8).length (s.map u8).length))
          rw [h1] at h
          rcases fresh_ok h with h | ⟨hnx, h⟩
          · cases h
          · obtain ⟨rfl, rfl⟩ := okSlc_eq h
            have hρ := hf.one rfl
            have hxv := he.eval hr.glob x
            rw [hx] at hxv
            have hxe : a.eval x = .string (bytesOf s) := hxv.1
            obtain ⟨r, hrun⟩ := run_text_bytes (P := P) el s w
            have hlen : (s.map u8).length = s.length := by rw [List.length_map]
            refine ⟨_, _, _, .inl (exec_convert ho _ (by
              rw [hxe]
              simp only [convert, Sem.run_bind, run_underlying hs, run_underlying hd, run_underlying hel, Result.andThen_ok]
              exact hrun)), Done.drew (Done.fresh hw hr.drew hnx hρ (x := r) ⟨_, _, rfl, ?_⟩ ⟨_, ins_self _ _, ?_⟩)⟩
            · have hrow := Row.of_pieces (Pieces.bare (s.map u8)) (d := lev (s.map u8).length) (by rw [List.length_map]; exact lev_ok _ hcap) h2
              refine RowR.new rfl hrow ?_ ?_ (fun h => by cases h) (.inr ?_) _
              · rw [hlen, byteRow, List.take_left' (by simp [byteVs])]
                exact bytes_cells _ s hxv.2
              · simp [byteRow, byteVs]
              · simp [byteRow, byteVs]
            · rw [hlen]; rfl
        · cases h
      · cases h
    · exact OpOK.no
  · rename_i el hs hd
    split
    · rename_i hel
      intro cx e m v m' h B0 A N ρ a w hw hin hr he hf
      have hxv := he.eval hr.glob x
      have h : convText P ((evO P x).f e) m = .ok v m' := h
      unfold convText at h
      split at h
      · rename_i hx
        cases h
        rw [hx] at hxv
        have hxv : a.eval x = .slice none 0 0 := hxv
        refine ⟨_, w, ρ, .inl (exec_convert ho _ (y := .string .empty) ?_), Done.pure hw hr ⟨?_, by simp⟩⟩
        · rw [hxv, run_convert_bytes_string w src dst el none 0 0 hs hel hd]; rfl
        · rfl
      · rename_i hx
        cases h
        rw [hx] at hxv
        obtain ⟨b, q, hv⟩ := hxv
        refine ⟨_, w, ρ, .inl (exec_convert ho _ (y := .string .empty) ?_), Done.pure hw hr ⟨?_, by simp⟩⟩
        · rw [hv, run_convert_bytes_string w src dst el _ _ _ hs hel hd, run_bytesToString w b 0 q [] rfl]; rfl
        · rfl
      · rename_i id off len cap hx
        rw [hx] at hxv
        obtain ⟨sg, hsg, hv⟩ := hxv
        obtain ⟨rm, hrm, hid, h⟩ := look_ok h
        unfold rowCells at h
        split at h
        · rename_i el' n sz opn fz d t hob
          rw [iff_ble] at h
          split at h
          · rename_i hle
            have hle : off + len ≤ n := hle
            -- the row that is read
            have hm : m' = ⟨m.H, m.nx, rm, m.wm, m.dfs⟩ := by
              rcases takeCells_or sz d t len off (RO.fail [81]) (fun l => okStr l ⟨m.H, m.nx, rm, m.wm, m.dfs⟩) with h1 | ⟨l, h1⟩
              · rw [h1] at h; cases h
              · rw [h1] at h
                unfold okStr at h
                rcases cellBytes_ok (RO.fail [82]) l (fun s => .ok (.c (.str s)) ⟨m.H, m.nx, rm, m.wm, m.dfs⟩) with h2 | ⟨s, h2, _⟩ <;> rw [h2] at h <;> cases h
                rfl
            subst hm
            have hat := hr.at hin hsg hid
            rw [hob] at hat
            obtain ⟨c, fr, hb, hrr⟩ := hat
            rcases takeCells_ok hrr.row len off (RO.fail [81]) (fun l => okStr l ⟨m.H, m.nx, rm, m.wm, m.dfs⟩) hle with h1 | ⟨l, h1, hl⟩
            · rw [h1] at h; cases h
            · rw [h1] at h
              unfold okStr at h
              rcases cellBytes_ok (RO.fail [82]) l (fun s => .ok (.c (.str s)) ⟨m.H, m.nx, rm, m.wm, m.dfs⟩) with h2 | ⟨s, h2, h3, h4⟩
              · rw [h2] at h; cases h
              · rw [h2] at h
                cases h
                subst h3
                obtain ⟨vs, hvs, hall⟩ := run_cells (P := P) hb hrr hle hl
                have hvs2 := cells_bytes hall
                have hvs3 : vs = ((s.map Int.ofNat).map (Value.int .u8)).toArray := by rw [← hvs2]
                rw [hvs3] at hvs
                refine ⟨_, w, ρ, .inl (exec_convert ho _ (y := .string (bytesOf s)) ?_), Done.looked hw hr hrm ⟨rfl, h4⟩⟩
                rw [hv, run_convert_bytes_string w src dst el _ _ _ hs hel hd, run_bytesToString w _ len _ (s.map Int.ofNat) hvs, push_bytes]
                congr 2
          · cases h
        · cases h
      · cases h
    · exact OpOK.no
  · rename_i e1 e2 hs hd
    split
    · rename_i hel
      rw [iff_eq]
      split
      · rename_i hsd
        have hsd : src = dst := Nat.eq_of_beq_eq_true hsd
        intro cx e m v m' h B0 A N ρ a w hw hin hr he hf
        have hxv := he.eval hr.glob x
        have h : toSame P ((evO P x).f e) m = .ok v m' := h
        unfold toSame at h
        split at h
        · rename_i id off len cap hx
          rw [hx] at hxv
          obtain ⟨sg, hsg, hxe⟩ := hxv
          obtain ⟨rm, hrm, hid, h⟩ := look_ok h
          unfold sameOb at h
          split at h
          · rename_i el n sz opn fz d tr hob
            rw [iff_eq] at h
            split at h
            · rename_i hz
              have hz := Nat.eq_of_beq_eq_true hz
              rcases turn_ok' h with h5 | ⟨hg, hidx, h5⟩
              · cases h5
              · cases h5
                have hAid : A id := hin id (.inl (Nat.min_le_right _ _))
                have hat' := hr.rows _ _ hsg (.inl hAid)
                rw [hob] at hat'
                obtain ⟨cs, fr, hb, hrr⟩ := hat'
                obtain ⟨f1, f2, f3, f4, f5, f6⟩ := mark_heap w hb
                have hlive : Live m.H id := fun h => by rw [hob] at h; cases h
                refine ⟨_, _, ρ, .inl (exec_convert ho _ (y := .slice (some ⟨sg.blk, sg.base + off, none⟩) len (cap + sg.ext)) (w' := w.freeze ⟨sg.blk, cs.size, none⟩ 1) ?_), ⟨⟨sg, hsg, rfl⟩, (Post.turn hw hr hAid hsg hg hlive _ _ f2 f3 ?_ f4 f5 f6 _ _ _).more (fun i hi => by rw [hi]; exact Nat.min_le_right _ _), Nat.le_trans (Nat.min_le_left _ _) hrm, Nat.min_le_left _ _, rfl⟩⟩
                · rw [hxe, hsd]
                  have hsh : w.shape? sg.blk = some (el, cs.size) := by simp only [World.shape?, hb]
                  simp [convert, run_underlying hd, run_underlying hel, markStringish, hsh]
                · rw [f1]
                  have hhi := hrr.high hz
                  refine ⟨cs, _, rfl, ⟨hrr.cell, hrr.whole, hrr.lev, hrr.mult, hrr.room, hrr.shut, fun i _ hi => ?_, fun h => by rw [hz] at h; simp at h, fun _ => .inr ?_⟩⟩
                  · rw [Bool.and_eq_false_iff]
                    left
                    have := hrr.room
                    by_cases hq : fr.1 = fr.2
                    · simp only [hq, beq_self_eq_true, if_true, decide_eq_false_iff_not]
                      omega
                    · have h2 : (fr.1 == fr.2) = false := by simpa using hq
                      simp only [h2, Bool.false_eq_true, if_false, decide_eq_false_iff_not]
                      rcases hhi with hhi | hhi
                      · exact absurd hhi hq
                      · omega
                  · by_cases hq : fr.1 = fr.2
                    · simp only [hq, beq_self_eq_true, if_true]
                      omega
                    · have h2 : (fr.1 == fr.2) = false := by simpa using hq
                      simp only [h2, Bool.false_eq_true, if_false]
                      rcases hhi with hhi | hhi
                      · exact absurd hhi hq
                      · omega
            · cases h
          · cases h
        · cases h
      · exact OpOK.no
    · exact OpOK.no
  · rename_i t hs hd
    split
    · rename_i sz hS
      intro cx e m v m' h B0 A N ρ a w hw hin hr he hf
      have hxv := he.eval hr.glob x
      have h : toUns P ((evO P x).f e) m = .ok v m' := h
      obtain ⟨i, hi, hisz⟩ : ∃ i, P.info? t = some i ∧ i.size ≠ 0 := by
        unfold sizeT at hS
        split at hS
        · rename_i i hi
          cases hS' : i.size with
          | zero => rw [hS'] at hS; cases hS
          | succ q => exact ⟨i, hi, by rw [hS']; exact Nat.succ_ne_zero _⟩
        · cases hS
      unfold toUns at h
      split at h
      · rename_i hx
        rw [hx] at hxv
        have hxe : a.eval x = .pointer none := hxv
        cases h
        refine ⟨_, w, ρ, .inl (exec_convert ho _ (y := .pointer none) ?_), Done.pure hw hr rfl⟩
        rw [hxe]
        simp [convert, run_underlying hs, run_underlying hd, Conv.unsafePointer]
      · rename_i id off hx
        rw [hx] at hxv
        obtain ⟨sg, hsg, hxe⟩ := hxv
        obtain ⟨rm, hrm, hid, h⟩ := look_ok h
        unfold unsOb at h
        split at h
        · rename_i el n sz' opn fz d tr hob
          rw [iff_ble] at h
          split at h
          · rename_i hlt
            have hlt : off + 1 ≤ n := hlt
            cases h
            have hat := hr.at hin hsg hid
            rw [hob] at hat
            obtain ⟨cs, fr, hb, hrr⟩ := hat
            refine ⟨_, w, ρ, .inl (exec_convert ho _ (y := .pointer (some ⟨sg.blk, sg.base + off, none⟩)) ?_), Done.looked hw hr hrm ⟨sg, hsg, rfl⟩⟩
            rw [hxe]
            refine Lib.run_to_unsafe w _ hs hd hi hisz (e := el) (cells := cs.size) ?_ ?_
            · simp only [World.shape?, hb]
            · have := hrr.room
              have h2 : n ≤ n + sg.ext * sz' := Nat.le_add_right _ _
              show sg.base + off < cs.size
              omega
          · cases h
        · cases h
      · cases h
    · exact OpOK.no
  · rename_i u hs hd
    split
    · rename_i i hi
      intro cx e m v m' h B0 A N ρ a w hw hin hr he hf
      have hxv := he.eval hr.glob x
      have h : fromUns P u ((evO P x).f e) m = .ok v m' := h
      unfold fromUns at h
      split at h
      · rename_i hx
        rw [hx] at hxv
        have hxe : a.eval x = .pointer none := hxv
        cases h
        refine ⟨_, w, ρ, .inl (exec_convert ho _ (y := .pointer none) ?_), Done.pure hw hr rfl⟩
        rw [hxe]
        simp [convert, run_underlying hs, run_underlying hd, Conv.unsafePointer]
      · rename_i id off hx
        rw [hx] at hxv
        obtain ⟨sg, hsg, hxe⟩ := hxv
        obtain ⟨rm, hrm, hid, h⟩ := look_ok h
        unfold backOb at h
        split at h
        · rename_i el n sz' opn fz d tr hob
          rw [iff_eq] at h
          split at h
          · rename_i hc
            simp only [Bool.and_eq_true, Bool.not_eq_true'] at hc
            obtain ⟨ho', hc⟩ := hc
            cases h
            have hat := hr.at hin hsg hid
            rw [hob] at hat
            obtain ⟨cs, fr, hb, hrr⟩ := hat
            obtain ⟨_, hbase, hsize⟩ := hrr.shut ho'
            refine ⟨_, w, ρ, .inl (exec_convert ho _ (y := .pointer (some ⟨sg.blk, sg.base + off, none⟩)) ?_), Done.looked hw hr hrm ⟨sg, hsg, rfl⟩⟩
            rw [hxe]
            refine Lib.run_from_unsafe w _ hs hd hi (e := el) (cells := cs.size) ?_ ?_
            · simp only [World.shape?, hb]
            · simp only [hbase, hsize, Nat.zero_add]
              exact hc
          · cases h
        · cases h
      · cases h
    · exact OpOK.no
  · exact genOp_ok o hsel

/-! ### Pieces of texts and rows -/

/-- A bound, and what the model has in its place. -/
theorem bound_ok {D : Nat} {e : NT D AV} {ev : Operand → Value} (hx : ∀ x, AR ρ ((evO P x).f e) (ev x)) {x : Option Operand} {dflt : Nat} {k : Nat → RO} {v : AV} (h : bound P x dflt e k = .ok v m') :
    ∃ n, k n = .ok v m' ∧ ((x = none ∧ n = dflt) ∨ ∃ y j, x = some y ∧ ev y = .int j (Int.ofNat n)) := by
  cases x with
  | none => exact ⟨dflt, h, .inl ⟨rfl, rfl⟩⟩
  | some y =>
    have h : natOf ((evO P y).f e) (.fail [117]) k = .ok v m' := h
    rcases natOf_ok h with ⟨j, n, hy, h⟩ | h
    · have := hx y
      rw [hy] at this
      exact ⟨n, h, .inr ⟨y, j, rfl, this⟩⟩
    · cases h

theorem run_bound {k : IntKind} {n y : Nat} (h : n ≤ y) (code : BoundsCode) (w : World) : (Instr.sliceBound (.int k (n : Int)) y code).run P w = .ok n w := by
  rw [run_sliceBound w k (n : Int) y code (Int.natCast_nonneg _) (by omega)]; rfl

/-- The bounds of a slice expression. -/
theorem run_bounds {ev : Operand → Value} {lo hi mx : Option Operand} {isSlice : Bool} {len cap l h m : Nat} (hmh : (mx.isSome && hi.isNone) = false)
    (hm : (mx = none ∧ m = cap) ∨ ∃ y j, mx = some y ∧ ev y = .int j (Int.ofNat m)) (hh : (hi = none ∧ h = len) ∨ ∃ y j, hi = some y ∧ ev y = .int j (Int.ofNat h)) (hl : (lo = none ∧ l = 0) ∨ ∃ y j, lo = some y ∧ ev y = .int j (Int.ofNat l))
    (h1 : m ≤ cap) (h2 : h ≤ m) (h3 : l ≤ h) (w : World) : (Instr.sliceBounds isSlice len cap (lo.map ev) (hi.map ev) (mx.map ev)).run P w = .ok (l, h, m) w := by
  unfold Instr.sliceBounds
  rcases hm with ⟨rfl, rfl⟩ | ⟨y, j, rfl, hy⟩
  · rcases hh with ⟨rfl, rfl⟩ | ⟨y, j, rfl, hy⟩
    · rcases hl with ⟨rfl, rfl⟩ | ⟨z, i, rfl, hz⟩
      · simp [Sem.run_pure]
      · simp [hz, run_bound h3]
    · rcases hl with ⟨rfl, rfl⟩ | ⟨z, i, rfl, hz⟩
      · simp [hy, run_bound h2]
      · simp [hz, hy, run_bound h3, run_bound h2]
  · rcases hh with ⟨rfl, rfl⟩ | ⟨y', j', rfl, hy'⟩
    · simp at hmh
    · rcases hl with ⟨rfl, rfl⟩ | ⟨z, i, rfl, hz⟩
      · simp [hy, hy', run_bound h1, run_bound h2]
      · simp [hz, hy, hy', run_bound h3, run_bound h1, run_bound h2]

theorem bytes_cut (s : List Nat) (l h : Nat) : (bytesOf s).extract l h = bytesOf ((s.drop l).take (h - l)) := by
  apply ByteArray.ext
  apply Array.ext'
  simp only [bytesOf, ByteArray.data_extract, Array.toList_extract]
  simp [List.map_take, List.map_drop]

theorem exec_slice {o : Oper} {t : TypeId} {x : Operand} {lo hi mx : Option Operand} (ho : o.op = .slice t x lo hi mx) (e : Operand → Value) {y : Value} {w w' : World} (h : (Instr.sliceAt t (e x) (lo.map e) (hi.map e) (mx.map e)).run P w = .ok y w') :
    (execOp e o).run P w = .ok (.value y) w' := by
  unfold execOp
  rw [ho]
  simp only [Sem.run_bind, h, Result.andThen_ok, Sem.run_pure]

theorem okShut_ok {id off len cap : Nat} {ob : Ob} {v : AV} (h : okShut id off len cap ob m = .ok v m') : m' = m ∧ ((v = .c (.ref (.slc id off len cap)) ∧ ∃ el n sz fz d t, ob = .row el n sz false fz d t) ∨ (v = .c (.ref (.slx id off len cap)) ∧ ∃ el n sz fz d t, ob = .row el n sz true fz d t)) := by
  unfold okShut at h
  split at h
  · rename_i el n sz opn fz d t
    cases opn with
    | true => cases h; exact ⟨rfl, .inr ⟨rfl, _, _, _, _, _, _, rfl⟩⟩
    | false => cases h; exact ⟨rfl, .inl ⟨rfl, _, _, _, _, _, _, rfl⟩⟩
  · cases h

theorem sliceD_ok {o : Oper} {t : TypeId} {x : Operand} {lo hi mx : Option Operand} (ho : o.op = .slice t x lo hi mx) {D : Nat} : OpOK P o (sliceD P t x lo hi mx (D := D)) := by
  unfold sliceD
  rw [iff_eq]
  split
  · exact OpOK.no
  rename_i hmh
  have hmh : (mx.isSome && hi.isNone) = false := by rwa [Bool.not_eq_true] at hmh
  split
  · rename_i hu
    split
    · refine OpOK.val' fun cx e m v m' h ρ a w hx => ?_
      have h : slStr P lo hi e ((evO P x).f e) m = .ok v m' := h
      unfold slStr at h
      split at h
      · rename_i s hs
        rw [num_eq] at h
        obtain ⟨hn, h, hhi⟩ := bound_ok hx h
        obtain ⟨ln, h, hlo⟩ := bound_ok hx h
        rw [iff_eq] at h
        split at h
        · rename_i hc
          simp only [Bool.and_eq_true, ble_iff] at hc
          unfold cut at h
          rw [forceStr_eq] at h
          cases h
          refine ⟨rfl, .string (bytesOf ((s.drop ln).take (hn - ln))), exec_slice ho _ ?_, rfl, fun c hc' => ?_⟩
          · have := hx x
            rw [hs] at this
            have hv : a.eval x = .string (bytesOf s) := this.1
            have hb := run_bounds (P := P) (isSlice := false) (len := s.length) (cap := s.length) (m := s.length) (mx := none) (ev := a.eval) (by rfl) (.inl ⟨rfl, rfl⟩) hhi hlo (Nat.le_refl _) hc.1 hc.2 w
            rw [hv]
            simp only [Instr.sliceAt, Sem.run_bind, run_underlying hu, Result.andThen_ok, Instr.slice, Option.map_none, Option.isSome_none, Bool.false_eq_true, if_false, bytesOf_size]
            simp only [Option.map_none] at hb
            simp only [hb, Sem.run_pure, Result.andThen_ok, bytes_cut]
          · have := hx x
            rw [hs] at this
            exact this.2 c (List.mem_of_mem_drop (List.mem_of_mem_take hc'))
        · cases h
      · cases h
    · exact OpOK.no
  · rename_i elem hu
    split
    · rename_i s hS
      intro cx e m v m' h B0 A N ρ a w hw hin hr he hf
      have hx : ∀ y, AR ρ ((evO P y).f e) (a.eval y) := fun y => he.eval hr.glob y
      have hxv := hx x
      have run : ∀ (ao : Option Addr) (len cap l hn mm : Nat), a.eval x = .slice ao len cap → (Instr.sliceBounds true len cap (lo.map a.eval) (hi.map a.eval) (mx.map a.eval)).run P w = .ok (l, hn, mm) w →
          (execOp a.eval o).run P w = .ok (.value (.slice (if mm = l then ao else ao.map (·.add (l * s))) (hn - l) (mm - l))) w := fun ao len cap l hn mm hv hb => by
        refine exec_slice ho _ ?_
        rw [hv]
        simp only [Instr.sliceAt, Sem.run_bind, run_underlying hu, Result.andThen_ok, Instr.slice, hb, run_sizeT hS, Sem.run_pure]
      have h : slSlc P s lo hi mx e ((evO P x).f e) m = .ok v m' := h
      unfold slSlc at h
      split at h
      · rename_i id off len cap hxe
        rw [hxe] at hxv
        obtain ⟨sg, hsg, hv⟩ := hxv
        rw [iff_eq] at h
        split at h
        · rename_i hcap
          obtain ⟨y, hmy, hy⟩ : ∃ y, mx = some y ∧ (evO P y).f e = .c (.ref (.capv id cap)) := by
            clear h hmh run
            unfold isCapOf at hcap
            cases mx with
            | none => cases hcap
            | some y =>
              simp only at hcap
              split at hcap
              · rename_i i c hyv
                simp only [Bool.and_eq_true] at hcap
                have h1 := Nat.eq_of_beq_eq_true hcap.1
                have h2 := Nat.eq_of_beq_eq_true hcap.2
                subst h1; subst h2
                exact ⟨y, rfl, hyv⟩
              · cases hcap
          have hyv := hx y
          rw [hy] at hyv
          obtain ⟨sg', hsg', hye⟩ := hyv
          rw [hsg] at hsg'; cases hsg'
          obtain ⟨hn, h, hhi⟩ := bound_ok hx h
          obtain ⟨ln, h, hlo⟩ := bound_ok hx h
          unfold slCut at h
          rw [iff_eq] at h
          have room : hn ≤ cap → ln ≤ hn → (Instr.sliceBounds true len (cap + sg.ext) (lo.map a.eval) (hi.map a.eval) (mx.map a.eval)).run P w = .ok (ln, hn, cap + sg.ext) w := fun h2 h3 =>
            run_bounds hmh (.inr ⟨y, .i64, hmy, hye⟩) hhi hlo (Nat.le_refl _) (by omega) h3 w
          split at h
          · rename_i hc
            simp only [Bool.and_eq_true, ble_iff] at hc
            obtain ⟨⟨⟨h1, h2⟩, h3⟩, h4⟩ := hc
            have h4 : ln + 1 ≤ cap := h4
            simp only [num_eq] at h
            cases h
            refine ⟨_, w, ρ, .inl (run _ _ _ ln hn (cap + sg.ext) hv (room h2 h3)), Done.pure hw hr ⟨sg, hsg, ?_⟩⟩
            rw [if_neg (by omega)]
            simp only [Option.map_some, Addr.add_plain, Nat.add_assoc]
            show Value.slice (some ⟨sg.blk, sg.base + (off + ln * s), none⟩) (hn - ln) (cap + sg.ext - ln) = .slice (some ⟨sg.blk, sg.base + (off + ln * s), none⟩) (hn - ln) (cap - ln + sg.ext)
            rw [show cap + sg.ext - ln = cap - ln + sg.ext by omega]
          · rw [iff_eq] at h
            split at h
            · rename_i hc
              simp only [Bool.and_eq_true, ble_iff] at hc
              obtain ⟨⟨⟨h1, h2⟩, h3⟩, h4⟩ := hc
              have h3 : ln = hn := Nat.eq_of_beq_eq_true h3
              cases h
              have hz : hn - ln = 0 := by omega
              refine ⟨_, w, ρ, .inl (run _ _ _ ln hn _ hv (room h1 (by omega))), Done.pure hw hr ?_⟩
              rw [hz]
              exact emp_ok _ _ _
            · cases h
        obtain ⟨cn, h, hmx⟩ := bound_ok hx h
        obtain ⟨hn, h, hhi⟩ := bound_ok hx h
        obtain ⟨ln, h, hlo⟩ := bound_ok hx h
        unfold slCut at h
        rw [iff_eq] at h
        -- the room that the model has
        have room : ∀ mm, mm = (if mx.isSome then cn else cap + sg.ext) → cn ≤ cap → hn ≤ cn → ln ≤ hn → (Instr.sliceBounds true len (cap + sg.ext) (lo.map a.eval) (hi.map a.eval) (mx.map a.eval)).run P w = .ok (ln, hn, mm) w := fun mm hmm h1 h2 h3 => by
          rcases hmx with ⟨rfl, rfl⟩ | ⟨y, j, rfl, hy⟩
          · have : mm = cn + sg.ext := hmm
            exact run_bounds hmh (.inl ⟨rfl, this⟩) hhi hlo (by omega) (by omega) h3 w
          · have : mm = cn := hmm
            subst this
            exact run_bounds hmh (.inr ⟨y, j, rfl, hy⟩) hhi hlo (by omega) h2 h3 w
        split at h
        · rename_i hc
          simp only [Bool.and_eq_true, ble_iff] at hc
          obtain ⟨⟨⟨h1, h2⟩, h3⟩, h4⟩ := hc
          have h4 : ln + 1 ≤ cn := h4
          simp only [num_eq] at h
          split at h
          · rename_i hxm
            cases h
            have hcn : cn = cap := by
              rcases hmx with ⟨_, rfl⟩ | ⟨y, j, hy, _⟩
              · rfl
              · cases hy
            refine ⟨_, w, ρ, .inl (run _ _ _ ln hn (cap + sg.ext) hv (room _ (by simp) h1 h2 h3)), Done.pure hw hr ⟨sg, hsg, ?_⟩⟩
            rw [if_neg (by omega)]
            simp only [Option.map_some, Addr.add_plain, Nat.add_assoc]
            show Value.slice (some ⟨sg.blk, sg.base + (off + ln * s), none⟩) (hn - ln) (cap + sg.ext - ln) = .slice (some ⟨sg.blk, sg.base + (off + ln * s), none⟩) (hn - ln) (cn - ln + sg.ext)
            rw [show cap + sg.ext - ln = cn - ln + sg.ext by omega]
          · rename_i y hxm
            obtain ⟨rm, hrm, hid, h⟩ := look_ok h
            obtain ⟨hm', hres⟩ := okShut_ok h
            clear h
            subst hm'
            rcases hres with ⟨rfl, el, n, sz, fz, d, tr, hob⟩ | ⟨rfl, el, n, sz, fz, d, tr, hob⟩
            · have hat := hr.at hin hsg hid
              rw [hob] at hat
              obtain ⟨cs, fr, hb, hrr⟩ := hat
              have hext := (hrr.shut rfl).1
              refine ⟨_, w, ρ, .inl (run _ _ _ ln hn cn hv (room _ (by simp) h1 h2 h3)), Done.looked hw hr hrm ⟨sg, hsg, ?_⟩⟩
              rw [if_neg (by omega)]
              simp only [Option.map_some, Addr.add_plain, Nat.add_assoc, hext, Nat.add_zero]
              rfl
            · refine ⟨_, w, ρ, .inl (run _ _ _ ln hn cn hv (room _ (by simp) h1 h2 h3)), Done.looked hw hr hrm ⟨sg, hsg, ?_⟩⟩
              rw [if_neg (by omega)]
              simp only [Option.map_some, Addr.add_plain, Nat.add_assoc]
              rfl
        · rw [iff_eq] at h
          split at h
          · rename_i hc
            simp only [Bool.and_eq_true, ble_iff] at hc
            obtain ⟨⟨⟨h1, h2⟩, h3⟩, h4⟩ := hc
            have h3 : ln = hn := Nat.eq_of_beq_eq_true h3
            have hz : hn - ln = 0 := by omega
            split at h
            · cases h
              refine ⟨_, w, ρ, .inl (run _ _ _ ln hn _ hv (room _ rfl h2 h1 (by omega))), Done.pure hw hr ?_⟩
              rw [hz]
              exact emp_ok _ _ _
            · cases h
              refine ⟨_, w, ρ, .inl (run _ _ _ ln hn cn hv (room _ (by simp) h2 h1 (by omega))), Done.pure hw hr ?_⟩
              have h4 : ln = cn := Nat.eq_of_beq_eq_true h4
              rw [hz, if_pos h4.symm, h4, Nat.sub_self]
              exact ⟨_, rfl⟩
          · cases h
      · rename_i hxe
        rw [hxe] at hxv
        have hxv : a.eval x = .slice none 0 0 := hxv
        obtain ⟨cn, h, hmx⟩ := bound_ok hx h
        obtain ⟨hn, h, hhi⟩ := bound_ok hx h
        obtain ⟨ln, h, hlo⟩ := bound_ok hx h
        rw [iff_eq] at h
        split at h
        · rename_i hc
          simp only [Bool.and_eq_true] at hc
          have h1 : cn = 0 := Nat.eq_of_beq_eq_true hc.1.1
          have h2 : hn = 0 := Nat.eq_of_beq_eq_true hc.1.2
          have h3 : ln = 0 := Nat.eq_of_beq_eq_true hc.2
          cases h
          rw [h1] at hmx; rw [h2] at hhi; rw [h3] at hlo
          exact ⟨_, w, ρ, .inl (run none 0 0 0 0 0 hxv (run_bounds hmh hmx hhi hlo (Nat.le_refl _) (Nat.le_refl _) (Nat.le_refl _) w)), Done.pure hw hr rfl⟩
        · cases h
      · rename_i hxe
        rw [hxe] at hxv
        obtain ⟨b, q, hxv⟩ := hxv
        split at h
        · obtain ⟨hn, h, hhi⟩ := bound_ok hx h
          obtain ⟨ln, h, hlo⟩ := bound_ok hx h
          rw [iff_eq] at h
          split at h
          · rename_i hc
            simp only [Bool.and_eq_true] at hc
            have h2 : hn = 0 := Nat.eq_of_beq_eq_true hc.1
            have h3 : ln = 0 := Nat.eq_of_beq_eq_true hc.2
            cases h
            rw [h2] at hhi; rw [h3] at hlo
            refine ⟨_, w, ρ, .inl (run (some b) 0 q 0 0 q hxv (run_bounds hmh (.inl ⟨rfl, rfl⟩) hhi hlo (Nat.le_refl _) (Nat.zero_le _) (Nat.le_refl _) w)), Done.pure hw hr (emp_ok _ _ _)⟩
          · cases h
        · cases h
      · rename_i id off len cap hxe
        rw [hxe] at hxv
        obtain ⟨sg, hsg, hv⟩ := hxv
        obtain ⟨cn, h, hmx⟩ := bound_ok hx h
        obtain ⟨hn, h, hhi⟩ := bound_ok hx h
        obtain ⟨ln, h, hlo⟩ := bound_ok hx h
        unfold slxCut at h
        rw [iff_eq] at h
        split at h
        · rename_i hc
          simp only [Bool.and_eq_true, ble_iff] at hc
          obtain ⟨⟨⟨h1, h2⟩, h3⟩, h4⟩ := hc
          have h4 : ln + 1 ≤ cn := h4
          simp only [num_eq] at h
          cases h
          refine ⟨_, w, ρ, .inl (run _ _ _ ln hn cn hv (run_bounds hmh hmx hhi hlo h1 h2 h3 w)), Done.pure hw hr ⟨sg, hsg, ?_⟩⟩
          rw [if_neg (by omega)]
          simp only [Option.map_some, Addr.add_plain, Nat.add_assoc]
          rfl
        · rw [iff_eq] at h
          split at h
          · rename_i hc
            simp only [Bool.and_eq_true, ble_iff] at hc
            obtain ⟨⟨⟨h1, h2⟩, h3⟩, h4⟩ := hc
            have h3 : ln = hn := Nat.eq_of_beq_eq_true h3
            have h4 : ln = cn := Nat.eq_of_beq_eq_true h4
            have hz : hn - ln = 0 := by omega
            cases h
            refine ⟨_, w, ρ, .inl (run _ _ _ ln hn cn hv (run_bounds hmh hmx hhi hlo h2 h1 (by omega) w)), Done.pure hw hr ?_⟩
            rw [hz, if_pos h4.symm, h4, Nat.sub_self]
            exact ⟨_, rfl⟩
          · cases h
      · rename_i hxe
        rw [hxe] at hxv
        obtain ⟨b, hxv⟩ := hxv
        obtain ⟨cn, h, hmx⟩ := bound_ok hx h
        obtain ⟨hn, h, hhi⟩ := bound_ok hx h
        obtain ⟨ln, h, hlo⟩ := bound_ok hx h
        rw [iff_eq] at h
        split at h
        · rename_i hc
          simp only [Bool.and_eq_true] at hc
          have h1 : cn = 0 := Nat.eq_of_beq_eq_true hc.1.1
          have h2 : hn = 0 := Nat.eq_of_beq_eq_true hc.1.2
          have h3 : ln = 0 := Nat.eq_of_beq_eq_true hc.2
          cases h
          rw [h1] at hmx; rw [h2] at hhi; rw [h3] at hlo
          exact ⟨_, w, ρ, .inl (run (some b) 0 0 0 0 0 hxv (run_bounds hmh hmx hhi hlo (Nat.le_refl _) (Nat.le_refl _) (Nat.le_refl _) w)), Done.pure hw hr ⟨_, rfl⟩⟩
        · cases h
      · cases h
    · exact OpOK.no
  · rename_i n elem hu
    split
    · rename_i s hS
      intro cx e m v m' h B0 A N ρ a w hw hin hr he hf
      have hx : ∀ y, AR ρ ((evO P y).f e) (a.eval y) := fun y => he.eval hr.glob y
      have hxv := hx x
      have h : slArr P n s lo hi mx e ((evO P x).f e) m = .ok v m' := h
      unfold slArr at h
      split at h
      · rename_i id off hxe
        rw [hxe] at hxv
        obtain ⟨sg, hsg, hv⟩ := hxv
        obtain ⟨cn, h, hmx⟩ := bound_ok hx h
        obtain ⟨hn, h, hhi⟩ := bound_ok hx h
        obtain ⟨ln, h, hlo⟩ := bound_ok hx h
        rw [iff_eq] at h
        split at h
        · rename_i hc
          simp only [Bool.and_eq_true, ble_iff] at hc
          obtain ⟨⟨⟨h1, h2⟩, h3⟩, h4⟩ := hc
          have h4 : ln + 1 ≤ cn := h4
          simp only [num_eq] at h
          obtain ⟨rm, hrm, hid, h⟩ := look_ok h
          obtain ⟨hm', hres⟩ := okShut_ok h
          clear h
          subst hm'
          have hb := run_bounds (P := P) (isSlice := false) (len := n) (cap := n) hmh hmx hhi hlo h1 h2 h3 w
          have hex : (execOp a.eval o).run P w = .ok (.value (.slice (some ⟨sg.blk, sg.base + (off + ln * s), none⟩) (hn - ln) (cn - ln))) w := by
            refine exec_slice ho _ ?_
            rw [hv]
            simp only [Instr.sliceAt, Sem.run_bind, run_underlying hu, Result.andThen_ok, Instr.sureAddr, Sem.run_pure, hb, run_sizeT hS]
            rw [if_neg (by omega), Addr.add_plain, Nat.add_assoc]
          rcases hres with ⟨rfl, el, n', sz, fz, d, tr, hob⟩ | ⟨rfl, el, n', sz, fz, d, tr, hob⟩
          · have hat := hr.at hin hsg hid
            rw [hob] at hat
            obtain ⟨cs, fr, hb, hrr⟩ := hat
            have hext := (hrr.shut rfl).1
            refine ⟨_, w, ρ, .inl hex, Done.looked hw hr hrm ⟨sg, hsg, ?_⟩⟩
            rw [hext, Nat.add_zero]; rfl
          · exact ⟨_, w, ρ, .inl hex, Done.looked hw hr hrm ⟨sg, hsg, rfl⟩⟩
        · cases h
      · cases h
    · exact OpOK.no
  · exact OpOK.no

end Go.CE
end WL

/- Maps. No program is named. -/
noncomputable section WM
namespace Go.CE
open Go

variable {P : Program} {B0 : Nat} {A W W' : Nat → Prop} {ρ ρ' ρ'' : Rho} {m m' m'' : M} {w w' w'' : World}

theorem bytes_beq (a b : ByteArray) : (a == b) = (a.toList == b.toList) := by
  rw [ByteArray.toList_eq, ByteArray.toList_eq]
  show (a.data == b.data) = _
  rw [Bool.eq_iff_iff, beq_iff_eq, beq_iff_eq]
  exact Array.toList_inj.symm

theorem bytes_eq {a b : ByteArray} (h : (a == b) = true) : a = b := by
  rw [bytes_beq, beq_iff_eq, ByteArray.toList_eq, ByteArray.toList_eq] at h
  exact ByteArray.ext (Array.toList_inj.1 h)

theorem bytes_refl (a : ByteArray) : (a == a) = true := by rw [bytes_beq]; exact BEq.rfl

/-- Keys that are told apart at once: what the model says of them. -/
theorem sameNow_ok {kind : TypeDesc} {k c : CV} {vk vc : Value} (hk : keyKind (some kind) k = true) (hvk : CR ρ k vk) (hvc : CR ρ c vc) {b : Bool} (h : sameC k c = some b) : Instr.sameNow kind vk vc = some b ∧ (b = true → Instr.sameBits 10000 vc vk = true) := by
  unfold keyKind at hk
  split at hk
  · rename_i j hj
    cases hj
    split at hk
    · rename_i i n
      rcases sameC_ok h hvk hvc with ⟨k', a, d, h1, h2, h3⟩ | ⟨a, d, h1, _⟩ | ⟨s, t, h1, _⟩
      · have hvk : vk = .int i n := hvk
        rw [h1, h2]
        refine ⟨by simp [Instr.sameNow, h3], fun hb => ?_⟩
        rw [h3] at hb
        have := eq_of_beq hb
        subst this
        simp [Instr.sameBits]
      · have hvk : vk = .int i n := hvk
        rw [hvk] at h1; cases h1
      · have hvk : vk = .int i n := hvk
        rw [hvk] at h1; cases h1
    · cases hk
  · rename_i hj
    cases hj
    split at hk
    · rename_i s0
      rcases sameC_ok h hvk hvc with ⟨k', a, d, h1, _⟩ | ⟨a, d, h1, _⟩ | ⟨s, t, h1, h2, h3⟩
      · have hvk : vk = .string (bytesOf s0) := hvk.1
        rw [hvk] at h1; cases h1
      · have hvk : vk = .string (bytesOf s0) := hvk.1
        rw [hvk] at h1; cases h1
      · rw [h1, h2]
        refine ⟨by simp only [Instr.sameNow, bytes_beq, h3], fun hb => ?_⟩
        rw [h3, ← bytes_beq] at hb
        have := bytes_eq hb
        subst this
        simp only [Instr.sameBits]
        exact bytes_refl s
    · cases hk
  · cases hk

/-- A key of several cells. -/
def isAg : TV → Bool
  | .c _ => false
  | .agg _ => true

/-- What a search from an entry on comes to: at once, or asking cell by cell. -/
def Finds (P : Program) (st : Bool) (kt : TypeId) (kind : TypeDesc) (vk : Value) (ents : List MapEntry) (i : Nat) (res : Option (Nat × Value)) : Prop :=
  match st with
  | false => Instr.findNow kind vk ents i = some res
  | true => ∀ w, (Instr.findAsking kt vk ents i).run P w = .ok res w

/-- What two keys come to. -/
def Cmps (P : Program) (st : Bool) (kt : TypeId) (kind : TypeDesc) (vk vc : Value) (b : Bool) : Prop :=
  match st with
  | false => Instr.sameNow kind vk vc = some b
  | true => ∀ w, (Op.equal kt vk vc).run P w = .ok b w

theorem Finds.nil {st : Bool} {kt : TypeId} {kind : TypeDesc} {vk : Value} (i : Nat) : Finds P st kt kind vk [] i none := by
  cases st with
  | false => rfl
  | true => intro w; rfl

theorem Finds.here {st : Bool} {kt : TypeId} {kind : TypeDesc} {vk : Value} {y : MapEntry} {ents : List MapEntry} {i : Nat} (h : Cmps P st kt kind vk y.key true) : Finds P st kt kind vk (y :: ents) i (some (i, y.val)) := by
  cases st with
  | false =>
    have h : Instr.sameNow kind vk y.key = some true := h
    show (match Instr.sameNow kind vk y.key with
        | some true => some (some (i, y.val))
        | some false => Instr.findNow kind vk ents (i + 1)
        | none => none) = _
    rw [h]
  | true =>
    intro w
    have h := h w
    simp only [Instr.findAsking, Sem.run_bind, h, Result.andThen_ok, if_true, Sem.run_pure]

theorem Finds.later {st : Bool} {kt : TypeId} {kind : TypeDesc} {vk : Value} {y : MapEntry} {ents : List MapEntry} {i : Nat} {res : Option (Nat × Value)} (h : Cmps P st kt kind vk y.key false) (hf : Finds P st kt kind vk ents (i + 1) res) : Finds P st kt kind vk (y :: ents) i res := by
  cases st with
  | false =>
    have h : Instr.sameNow kind vk y.key = some false := h
    show (match Instr.sameNow kind vk y.key with
        | some true => some (some (i, y.val))
        | some false => Instr.findNow kind vk ents (i + 1)
        | none => none) = _
    rw [h]
    exact hf
  | true =>
    intro w
    have h := h w
    have hf := hf w
    simp only [Instr.findAsking, Sem.run_bind, h, Result.andThen_ok, Bool.false_eq_true, if_false]
    exact hf

theorem keyKs_some {kt : TypeId} {ks : List Nat} (h : keyKs P kt = some ks) : ∃ fs, P.underlying kt = some (.struct fs) ∧ (∀ f ∈ fs.toList, scalarT P f.type = true) ∧ kindsT P 100 kt = some ks := by
  unfold keyKs at h
  split at h
  · rename_i fs hu
    split at h
    · rename_i hall
      exact ⟨fs, hu, fun f hf => List.all_eq_true.1 hall f hf, h⟩
    · cases h
  · cases h

/-- Cells that are alike are alike bit by bit. -/
theorem eqKs_bits (n : Nat) : ∀ {ks : List Nat} {xs ys : List CV} {va vb : List Value}, eqKs ks xs ys = some true → All2 (CR ρ) xs va → All2 (CR ρ) ys vb →
    va.length = vb.length ∧ (vb.zip va).all (fun (x, y) => Instr.sameBits n x y) = true
  | [], xs, ys, va, vb, h, ha, hb => by
    obtain ⟨rfl, rfl, _⟩ := eqKs_nil h
    cases va with
    | nil => cases vb with
      | nil => exact ⟨rfl, rfl⟩
      | cons _ _ => exact hb.elim
    | cons _ _ => exact ha.elim
  | k :: ks, xs, ys, va, vb, h, ha, hb => by
    obtain ⟨x, xr, y, yr, p, q, rfl, rfl, _, h1, h2, h3⟩ := eqKs_some h
    have h3 := h3.symm
    rw [Bool.and_eq_true] at h3
    obtain ⟨rfl, rfl⟩ := h3
    cases va with
    | nil => exact ha.elim
    | cons v va => cases vb with
      | nil => exact hb.elim
      | cons u vb =>
        obtain ⟨i1, i2⟩ := eqKs_bits n h2 ha.2 hb.2
        refine ⟨by simp [i1], ?_⟩
        rw [List.zip_cons_cons, List.all_cons, i2, Bool.and_true]
        show Instr.sameBits n u v = true
        rcases sameC_ok h1 ha.1 hb.1 with ⟨k', a, d, e1, e2, e3⟩ | ⟨a, d, e1, e2, e3⟩ | ⟨s, t, e1, e2, e3⟩
        · rw [e1, e2]
          have := eq_of_beq e3.symm
          subst this
          cases n <;> simp [Instr.sameBits]
        · rw [e1, e2]
          have := eq_of_beq e3.symm
          subst this
          cases n <;> simp [Instr.sameBits]
        · rw [e1, e2]
          rw [← bytes_beq] at e3
          have := bytes_eq e3.symm
          subst this
          cases n <;> (simp only [Instr.sameBits]; exact bytes_refl s)

/-- Two keys compared. -/
theorem sameK_ok {kt : TypeId} {kind : TypeDesc} {k c : TV} {vk vc : Value} (hkd : P.underlying kt = some kind) (hk : keyOk P kt k = true) (hvk : TR ρ k vk) (hvc : TR ρ c vc) {b : Bool} (h : sameK (keyKs P kt) k c = some b) :
    Cmps P (isAg k) kt kind vk vc b ∧ (b = true → Instr.sameBits 10000 vc vk = true) := by
  cases k with
  | c k => cases c with
    | agg l => cases h
    | c c =>
      have hk : keyKind (P.underlying kt) k = true := hk
      rw [hkd] at hk
      exact sameNow_ok hk hvk hvc h
  | agg k => cases c with
    | c c => cases h
    | agg l =>
      have h : (match keyKs P kt with
        | some ks => eqKs ks k l
        | none => none) = some b := h
      split at h
      · rename_i ks hks
        obtain ⟨fs, _, _, hkt⟩ := keyKs_some hks
        obtain ⟨agg, ha, _, _, hflat⟩ := kindsT_ok 100 kt ks hkt
        obtain ⟨va, rfl, hva⟩ := hvk
        obtain ⟨vb, rfl, hvb⟩ := hvc
        have hagg : agg = true := by
          unfold isAggT at ha
          obtain ⟨fs, hu, _⟩ := keyKs_some hks
          rw [hu] at ha; cases ha; rfl
        subst hagg
        refine ⟨fun w => ?_, fun hb => ?_⟩
        · exact hflat 9900 ρ k l _ _ b w ⟨va, rfl, hva⟩ ⟨vb, rfl, hvb⟩ h
        · subst hb
          obtain ⟨i1, i2⟩ := eqKs_bits 9999 h hva hvb
          show (vb.size == va.size && (vb.toList.zip va.toList).all fun (x, y) => Instr.sameBits 9999 x y) = true
          rw [i2, Bool.and_true, beq_iff_eq, ← Array.length_toList, ← Array.length_toList, i1]
      · cases h

def findG {β : Type} (bad : β) (ks : Option (List Nat)) (key : TV) (no : β) (yes : Nat → TV → β) (es : List MapE) : Nat → β :=
  List.rec (motive := fun _ => Nat → β) (fun _ => no) (fun x _ ih i => stepM bad (sameK ks key x.key) (yes i x.val) (num (Nat.succ i) ih)) es

theorem findG_ok {β : Type} {kt : TypeId} {kind : TypeDesc} {key : TV} (hkd : P.underlying kt = some kind) (hk : keyOk P kt key = true) (bad no : β) (yes : Nat → TV → β) : ∀ (es : List MapE) (i : Nat),
    findG bad (keyKs P kt) key no yes es i = bad ∨ (findG bad (keyKs P kt) key no yes es i = no ∧ ∀ (ρ : Rho) (vk : Value) (ents : List MapEntry), TR ρ key vk → All2 (ERel ρ) es ents → Finds P (isAg key) kt kind vk ents i none) ∨
      ∃ j x, findG bad (keyKs P kt) key no yes es i = yes (i + j) x.val ∧ es[j]? = some x ∧ ∀ (ρ : Rho) (vk : Value) (ents : List MapEntry), TR ρ key vk → All2 (ERel ρ) es ents →
        ∃ y, ents[j]? = some y ∧ ERel ρ x y ∧ Finds P (isAg key) kt kind vk ents i (some (i + j, y.val)) ∧ Instr.sameBits 10000 y.key vk = true
  | [], i => .inr (.inl ⟨rfl, fun ρ vk ents _ h => by
      cases ents with
      | nil => exact Finds.nil i
      | cons _ _ => exact h.elim⟩)
  | x :: es, i => by
    have e : findG bad (keyKs P kt) key no yes (x :: es) i = stepM bad (sameK (keyKs P kt) key x.key) (yes i x.val) (findG bad (keyKs P kt) key no yes es (i + 1)) := rfl
    rw [e]
    cases hs : sameK (keyKs P kt) key x.key with
    | none => exact .inl rfl
    | some b =>
      show iff b (yes i x.val) (findG bad (keyKs P kt) key no yes es (i + 1)) = bad ∨ _
      cases b with
      | true =>
        refine .inr (.inr ⟨0, x, rfl, rfl, fun ρ vk ents hvk hall => ?_⟩)
        cases ents with
        | nil => exact hall.elim
        | cons y ents =>
          obtain ⟨h1, h2⟩ := sameK_ok hkd hk hvk hall.1.key hs
          exact ⟨y, rfl, hall.1, Finds.here h1, h2 rfl⟩
      | false =>
        rcases findG_ok hkd hk bad no yes es (i + 1) with h3 | ⟨h3, h4⟩ | ⟨j, x', h3, h4, h5⟩
        · exact .inl h3
        · refine .inr (.inl ⟨h3, fun ρ vk ents hvk hall => ?_⟩)
          cases ents with
          | nil => exact hall.elim
          | cons y ents =>
            obtain ⟨h1, _⟩ := sameK_ok hkd hk hvk hall.1.key hs
            exact Finds.later h1 (h4 ρ vk ents hvk hall.2)
        · refine .inr (.inr ⟨j + 1, x', ?_, by simpa using h4, fun ρ vk ents hvk hall => ?_⟩)
          · rw [show i + (j + 1) = i + 1 + j by omega]; exact h3
          · cases ents with
            | nil => exact hall.elim
            | cons y ents =>
              obtain ⟨h1, _⟩ := sameK_ok hkd hk hvk hall.1.key hs
              obtain ⟨y', a, b, c, d⟩ := h5 ρ vk ents hvk hall.2
              refine ⟨y', by simpa using a, b, ?_, d⟩
              rw [show i + (j + 1) = i + 1 + j by omega]
              exact Finds.later h1 c

theorem setM_eq {β : Type} (key : TV) (val : TV) : ∀ (es : List MapE) (i : Nat) (k : List MapE → β), setM i key val es k = k (es.modify i fun x => ⟨key, val, x.born⟩)
  | [], i, k => by cases i <;> rfl
  | x :: r, 0, k => rfl
  | x :: r, i + 1, k => by
    have e : setM (i + 1) key val (x :: r) k = setM i key val r fun r => k (x :: r) := rfl
    rw [e, setM_eq key val r i]; rfl

theorem pushM_eq {β : Type} (x : MapE) : ∀ (es : List MapE) (k : List MapE → β), pushM x es k = k (es ++ [x])
  | [], _ => rfl
  | y :: r, k => by
    have e : pushM x (y :: r) k = pushM x r fun r => k (y :: r) := rfl
    rw [e, pushM_eq x r]; rfl

theorem keyOf_ok {v : AV} {bad : RO} {k : TV → RO} {r : RO} (h : keyOf v bad k = r) : bad = r ∨ ∃ c, v = avOf c ∧ k c = r ∧ ∀ (ρ : Rho) (x : Value), AR ρ v x → TR ρ c x := by
  cases v with
  | c c => exact .inr ⟨.c c, rfl, h, fun _ _ h => h⟩
  | agg l => exact .inr ⟨.agg l, rfl, h, fun _ _ h => h⟩
  | _ => exact .inl h

theorem tvOf_ok {β : Type} {v : AV} {bad : β} {k : TV → β} {r : β} (h : tvOf v bad k = r) : bad = r ∨ ∃ t, k t = r ∧ v = avOf t ∧ ∀ (ρ : Rho) (x : Value), AR ρ v x → TR ρ t x := by
  cases v with
  | c c => exact .inr ⟨.c c, h, rfl, fun _ _ h => h⟩
  | agg l => exact .inr ⟨.agg l, h, rfl, fun _ _ h => h⟩
  | _ => exact .inl h

theorem checkFields (em : Bool) (n : Nat) (w : World) (kinds : TypeId → Option (List Nat)) (d : Nat) (hkf : ∀ t ks, kinds t = some ks → FlatEq P d t ks) (ρ : Rho) (xs : List CV) (va : Array Value) (hva : All2 (CR ρ) xs va.toList) :
    ∀ (fs : List Field) (off : Nat) (ks : List Nat) (b : Bool), kindsFs kinds fs off = some ks → (∀ f ∈ fs, scalarT P f.type = true) → eqKs ks (xs.drop off) (xs.drop off) = some b →
      (forIn fs PUnit.unit fun f (_ : PUnit) =>
        if f.name ≠ "_" then do
          let x ← part f.type va f.offset
          Instr.checkKey em (n + 1) f.type x
          pure (ForInStep.yield PUnit.unit)
        else pure (ForInStep.yield PUnit.unit) : Sem PUnit).run P w = .ok () w
  | [], off, ks, b, h, _, he => by simp
  | f :: fs, off, ks, b, h, hall, he => by
    unfold kindsFs at h
    split at h
    · rename_i hf
      simp only [Bool.and_eq_true, bne_iff_ne, beq_iff_eq] at hf
      split at h
      · rename_i k1 hk1
        split at h
        · rename_i l hl
          cases h
          obtain ⟨agg, ha, hs, h1, _⟩ := hkf _ _ hk1
          obtain ⟨p, q, hp, hq, hb⟩ := eqKs_append he
          have hlen := eqKs_length he
          have hxo : k1.length ≤ (xs.drop off).length := by rw [hlen.1]; simp
          obtain ⟨v, hv, hV⟩ := part_ok ha hs h1 hva (off := off) hxo w
          have ih := checkFields em n w kinds d hkf ρ xs va hva fs (off + k1.length) l q hl (fun g hg => hall g (by simp [hg])) (by rw [← List.drop_drop]; exact hq)
          have hck : (Instr.checkKey em (n + 1) f.type v).run P w = .ok () w := by
            have hsc := hall f (by simp)
            unfold scalarT at hsc
            split at hsc
            · rename_i j hu
              unfold Instr.checkKey
              simp only [Sem.run_bind, run_underlying hu, Result.andThen_ok]; rfl
            · rename_i hu
              unfold Instr.checkKey
              simp only [Sem.run_bind, run_underlying hu, Result.andThen_ok]; rfl
            · rename_i hu
              unfold Instr.checkKey
              simp only [Sem.run_bind, run_underlying hu, Result.andThen_ok]; rfl
            · cases hsc
          rw [← hf.2] at hv
          simp only [List.forIn_cons, Sem.run_bind, hf.1, ne_eq, not_false_eq_true, if_true, Result.andThen_ok, hv, hck, Sem.run_pure]
          exact ih
        · cases h
      · cases h
    · cases h

/-- A key that is looked up by its cells need not be checked. -/
theorem run_checkKey {kt : TypeId} {key : TV} (hk : keyOk P kt key = true) (b : Bool) (v : Value) (hv : TR ρ key v) (w : World) : ∃ kind, P.underlying kt = some kind ∧ (Instr.checkKey b 10000 kt v).run P w = .ok () w := by
  cases key with
  | c key =>
    have hk : keyKind (P.underlying kt) key = true := hk
    cases hu : P.underlying kt with
    | none => rw [hu] at hk; cases hk
    | some kind =>
      rw [hu] at hk
      refine ⟨kind, rfl, ?_⟩
      unfold Instr.checkKey
      simp only [Sem.run_bind, run_underlying hu, Result.andThen_ok]
      cases kind <;> first | rfl | (unfold keyKind at hk; cases hk)
  | agg l =>
    have hk : (match keyKs P kt with
      | some ks => (match eqKs ks l l with
        | some _ => true
        | none => false)
      | none => false) = true := hk
    split at hk
    · rename_i ks hks
      split at hk
      · rename_i r hr
        obtain ⟨fs, hu, hall, hkt⟩ := keyKs_some hks
        refine ⟨_, hu, ?_⟩
        obtain ⟨va, rfl, hva⟩ := hv
        have hkf : ∃ k, kindsFs (kindsT P 99) fs.toList 0 = some k ∧ k = ks := by
          unfold kindsT at hkt
          split at hkt
          · rename_i h1; rw [hu] at h1; cases h1
          · rename_i h1; rw [hu] at h1; cases h1
          · rename_i h1; rw [hu] at h1; cases h1
          · rename_i fs' hi h1
            rw [hu] at h1; cases h1
            split at hkt
            · cases hkt
            · split at hkt
              · rename_i k hk'
                obtain ⟨rfl, _⟩ := sized_some hkt
                exact ⟨_, hk', rfl⟩
              · cases hkt
          · rename_i h1; rw [hu] at h1; cases h1
          · cases hkt
        obtain ⟨k, hkf, rfl⟩ := hkf
        have hrun := checkFields b 9998 w (kindsT P 99) 99 (kindsT_ok 99) ρ l va hva fs.toList 0 k r hkf hall hr
        rw [show (10000 : Nat) = 9999 + 1 from rfl, Instr.checkKey]
        simp only [Sem.run_bind, run_underlying hu, Result.andThen_ok]
        rw [← Array.forIn_toList]
        exact (congrArg (fun r => Result.andThen r fun a w' => (pure () : Sem Unit).run P w') hrun).trans rfl
      · cases hk
    · cases hk

/-- What a search comes to, as the model begins it. -/
theorem Finds.key {kt : TypeId} {kind : TypeDesc} {key : TV} {vk : Value} {ents : List MapEntry} {res : Option (Nat × Value)} (hkd : P.underlying kt = some kind) (hk : keyOk P kt key = true) (h : Finds P (isAg key) kt kind vk ents 0 res) (w : World) :
    (Instr.findKey kt vk ents).run P w = .ok res w := by
  unfold Instr.findKey
  simp only [Sem.run_bind, run_underlying hkd, Result.andThen_ok]
  cases key with
  | c key =>
    have h : Instr.findNow kind vk ents 0 = some res := h
    rw [h]; rfl
  | agg l =>
    have h : ∀ w, (Instr.findAsking kt vk ents 0).run P w = .ok res w := h
    have hst : ∃ fs, kind = .struct fs := by
      have hk : (match keyKs P kt with
        | some ks => (match eqKs ks l l with
          | some _ => true
          | none => false)
        | none => false) = true := hk
      split at hk
      · rename_i ks hks
        obtain ⟨fs, hu, _⟩ := keyKs_some hks
        rw [hu] at hkd; cases hkd
        exact ⟨fs, rfl⟩
      · cases hk
    obtain ⟨fs, rfl⟩ := hst
    cases ents with
    | nil =>
      have := h w
      cases this
      rfl
    | cons y ents => exact h w

theorem zeroTV_ok {t : TypeId} {z : TV} (h : zeroTV P t = some z) (w : World) : ∃ v, (zeroValue t).run P w = .ok v w ∧ ∀ ρ, TR ρ z v := by
  unfold zeroTV at h
  split at h
  · rename_i i hi
    split at h
    · rename_i v hv
      refine ⟨v, ?_, fun ρ => ?_⟩
      · unfold zeroValue
        simp only [Sem.run_bind, run_typeInfoT hi, Result.andThen_ok, hv, Sem.run_pure]
      · have := ofV_ok ρ v
        split at h
        · rename_i c hc
          cases h
          rw [hc] at this; exact this
        · rename_i l hl
          cases h
          rw [hl] at this; exact this
        · cases h
    · cases h
  · cases h

theorem okFound_ok {ok found : Bool} {t : TV} {v : AV} (h : okFound ok found m t = .ok v m') : m' = m ∧ ∀ (ρ : Rho) (x : Value), TR ρ t x → AR ρ v (if ok then .tuple #[x, .bool found] else x) := by
  unfold okFound at h
  split at h
  · cases h
    exact ⟨rfl, fun ρ x hx => ⟨#[x, .bool found], rfl, hx, rfl, trivial⟩⟩
  · rw [okTV_eq] at h
    cases h
    exact ⟨rfl, fun ρ x hx => TR.av hx⟩

theorem keyOk_under {kt : TypeId} {key : TV} (hk : keyOk P kt key = true) : ∃ kind, P.underlying kt = some kind := by
  cases key with
  | c key =>
    have hk : keyKind (P.underlying kt) key = true := hk
    cases hu : P.underlying kt with
    | none => rw [hu] at hk; cases hk
    | some kind => exact ⟨kind, rfl⟩
  | agg l =>
    have hk : (match keyKs P kt with
      | some ks => (match eqKs ks l l with
        | some _ => true
        | none => false)
      | none => false) = true := hk
    split at hk
    · rename_i ks hks
      obtain ⟨fs, hu, _⟩ := keyKs_some hks
      exact ⟨_, hu⟩
    · cases hk

/-- What is looked up in a map's entries. -/
theorem lookupM_ok {kt et t : TypeId} {z : TV} {ok : Bool} {key : TV} {es : List MapE} {v : AV} (hu : P.underlying t = some (.map kt et)) (hz : zeroTV P et = some z) (hk : keyOk P kt key = true) (hu0 : ∃ kind, P.underlying kt = some kind) (h : lookupM (keyKs P kt) z ok key es m = .ok v m') :
    m' = m ∧ ∀ (ρ : Rho) (vk mv : Value) (ents : Array MapEntry) (w : World), TR ρ key vk → All2 (ERel ρ) es ents.toList →
      ((mv = .map none ∧ ents = #[]) ∨ ∃ r clock, mv = .map (some r) ∧ w.heap[r]? = some (.map ents clock)) → ∃ x, (Instr.lookup t mv vk ok).run P w = .ok x w ∧ AR ρ v x := by
  obtain ⟨kind, hkd⟩ := hu0
  have h : findG (.fail [92]) (keyKs P kt) key (okFound ok false m z) (fun _ v => okFound ok true m v) es 0 = .ok v m' := h
  have hm : m' = m := by
    rcases findG_ok hkd hk (.fail [92]) (okFound ok false m z) (fun _ v => okFound ok true m v) es 0 with h1 | ⟨h1, _⟩ | ⟨j, x, h1, _⟩
    · rw [h1] at h; cases h
    · rw [h1] at h; exact (okFound_ok h).1
    · rw [h1] at h; exact (okFound_ok h).1
  refine ⟨hm, fun ρ vk mv ents w hvk hall hmv => ?_⟩
  subst hm
  obtain ⟨_, _, hcheck⟩ := run_checkKey hk ents.isEmpty vk hvk w
  have hlk : ∀ (res : Option (Nat × Value)) (x : Value) (b : Bool), Finds P (isAg key) kt kind vk ents.toList 0 res → (match res with
      | some (_, v) => pure (v, true)
      | none => do pure (← zeroValue et, false) : Sem (Value × Bool)).run P w = .ok (x, b) w → (Instr.lookup t mv vk ok).run P w = .ok (if ok then .tuple #[x, .bool b] else x) w := fun res x b h1 h2 => by
    have hfk : (Instr.findKey kt vk ents.toList).run P w = .ok res w := h1.key hkd hk w
    have hrest : (do
        Instr.checkKey ents.isEmpty 10000 kt vk
        let (v, ok') ← match ← Instr.findKey kt vk ents.toList with
          | some (_, v) => pure (v, true)
          | none => pure (← zeroValue et, false)
        pure (if ok then .tuple #[v, .bool ok'] else v) : Sem Value).run P w = .ok (if ok then .tuple #[x, .bool b] else x) w := by
      simp only [Sem.run_bind, hcheck, Result.andThen_ok, hfk]
      cases res with
      | none =>
        simp only [Sem.run_bind] at h2 ⊢
        cases hzr : (zeroValue et).run P w with
        | halt hh w' => rw [hzr] at h2; cases h2
        | ok y w' =>
          rw [hzr] at h2
          cases h2
          simp only [Result.andThen_ok, Sem.run_pure]
      | some y =>
        obtain ⟨i, y⟩ := y
        simp only [Sem.run_pure] at h2 ⊢
        cases h2; rfl
    unfold Instr.lookup
    rcases hmv with ⟨rfl, rfl⟩ | ⟨r, clock, rfl, hr⟩
    · simp only [Sem.run_bind, run_underlying hu, Result.andThen_ok, Sem.run_pure] at hrest ⊢
      exact hrest
    · have hg : (getObj r).run P w = .ok (.map ents clock) w := by simp only [getObj, Sem.run, hr]
      simp only [Sem.run_bind, run_underlying hu, Result.andThen_ok, Sem.run_pure, hg] at hrest ⊢
      exact hrest
  rcases findG_ok hkd hk (.fail [92]) (okFound ok false m' z) (fun _ v => okFound ok true m' v) es 0 with h1 | ⟨h1, h2⟩ | ⟨j, x, h1, _, h2⟩
  · rw [h1] at h; cases h
  · rw [h1] at h
    obtain ⟨x, hx, hxr⟩ := zeroTV_ok hz w
    exact ⟨_, hlk none x false (h2 ρ vk ents.toList hvk hall) (by simp only [Sem.run_bind, hx, Result.andThen_ok, Sem.run_pure]), (okFound_ok h).2 ρ x (hxr ρ)⟩
  · rw [h1] at h
    obtain ⟨y, _, h4, h5, _⟩ := h2 ρ vk ents.toList hvk hall
    exact ⟨_, hlk _ y.val true h5 rfl, (okFound_ok h).2 ρ y.val h4.val⟩

theorem lookupD_ok {o : Oper} {t : TypeId} {x i : Operand} {ok : Bool} (ho : o.op = .lookup t x i ok) {D : Nat} : OpOK P o (lookupD P t x i ok (D := D)) := by
  unfold lookupD
  split
  · rename_i kt et hu
    split
    · rename_i z hz
      intro c e m v m' h B0 A N ρ a w hw hin hr he hf
      have h : keyOf ((evO P i).f e) (.fail [93]) (fun key => iff (keyOk P kt key) (lookupR P (keyKs P kt) z ok ((evO P x).f e) key m) (.fail [97])) = .ok v m' := h
      rcases keyOf_ok h with h | ⟨key, hkey, h, hkr⟩
      · cases h
      · rw [iff_eq] at h
        split at h
        · rename_i hk
          have hvk : TR ρ key (a.eval i) := hkr ρ _ (he.eval hr.glob i)
          have hu0 := keyOk_under hk
          have hx := he.eval hr.glob x
          have run : ∀ y, (Instr.lookup t (a.eval x) (a.eval i) ok).run P w = .ok y w → (execOp a.eval o).run P w = .ok (.value y) w := fun y hy => by
            unfold execOp
            rw [ho]
            simp only [Sem.run_bind, hy, Result.andThen_ok, Sem.run_pure]
          unfold lookupR at h
          split at h
          · rename_i hxe
            rw [hxe] at hx
            have hx : a.eval x = .map none := hx
            obtain ⟨rfl, hgo⟩ := lookupM_ok hu hz hk hu0 h
            obtain ⟨y, hy, hay⟩ := hgo ρ (a.eval i) (a.eval x) #[] w hvk trivial (.inl ⟨hx, rfl⟩)
            exact ⟨y, w, ρ, .inl (run y hy), Done.pure hw hr hay⟩
          · rename_i id hxe
            rw [hxe] at hx
            obtain ⟨sg, hsg, hx⟩ := hx
            obtain ⟨rm, hrm, hid, h⟩ := look_ok h
            unfold lookupOb at h
            split at h
            · rename_i es clock hob
              obtain ⟨rfl, hgo⟩ := lookupM_ok hu hz hk hu0 h
              have hat := hr.at hin hsg hid
              rw [hob] at hat
              obtain ⟨ents, hb, hall⟩ := hat
              obtain ⟨y, hy, hay⟩ := hgo ρ (a.eval i) (a.eval x) ents w hvk hall (.inr ⟨_, clock, hx, hb⟩)
              exact ⟨y, w, ρ, .inl (run y hy), Done.looked hw hr hrm hay⟩
            · cases h
          · cases h
        · cases h
    · exact OpOK.no
  · exact OpOK.no

/-! ### Entries laid -/

/-- A world with another object at a number. -/
def setOb (w : World) (r : Nat) (o : Obj) : World := { w with heap := w.heap.setIfInBounds r o }

theorem setOb_same {r : Nat} {o x : Obj} (h : w.heap[r]? = some x) : (setOb w r o).heap[r]? = some o := by
  have hlt : r < w.heap.size := (Array.getElem?_eq_some_iff.1 h).1
  show (w.heap.setIfInBounds r o)[r]? = some o
  rw [Array.getElem?_setIfInBounds_self, if_pos hlt]

theorem setOb_other {r b : Nat} {o : Obj} (h : b ≠ r) : (setOb w r o).heap[b]? = w.heap[b]? := by
  show (w.heap.setIfInBounds r o)[b]? = _
  rw [Array.getElem?_setIfInBounds_ne (Ne.symm h)]

theorem setOb_size (r : Nat) (o : Obj) : (setOb w r o).heap.size = w.heap.size := by simp [setOb]

theorem run_setObj {r : Nat} {o x : Obj} (h : w.heap[r]? = some x) (hx : ∀ c t f, x ≠ .cells c t f) : (setObj r o).run P w = .ok () (setOb w r o) := by
  cases x with
  | cells c t f => exact absurd rfl (hx c t f)
  | _ => simp only [setObj, Sem.run, h, setOb]

theorem run_getObj {r : Nat} {x : Obj} (h : w.heap[r]? = some x) (hx : ∀ c t f, x ≠ .cells c t f) : (getObj r).run P w = .ok x w := by
  cases x with
  | cells c t f => exact absurd rfl (hx c t f)
  | _ => simp only [getObj, Sem.run, h]

/-- An object that was there is another. -/
theorem Post.setOb (hw : WF P m) (hr : Rel P B0 A ρ m.H w) {id : Nat} {s : Seg} (hA : A id) (hs : ρ id = some s) (hg : glb P ≤ id) (hl : Live m.H id) {x : Obj} (hx : w.heap[s.blk]? = some x) (ob : Ob) (o : Obj) (ho : OR ρ s ob (some o)) (rm wm : Nat) (dfs : List Nat) :
    Post P B0 A (fun i => i = id) ρ m w ρ ⟨updN hd id m.H ob, m.nx, rm, wm, dfs⟩ (setOb w s.blk o) :=
  Post.turn hw hr hA hs hg hl ob _ (setOb_size _ _) (fun b hb => setOb_other hb) (by rw [setOb_same hx]; exact ho) rfl rfl rfl _ _ _

theorem All2.modify {α β : Type} {R : α → β → Prop} {f : α → α} {g : β → β} : ∀ {l : List α} {m : List β} (i : Nat), All2 R l m → (∀ a b, R a b → R (f a) (g b)) → All2 R (l.modify i f) (m.modify i g)
  | [], [], i, _, _ => by cases i <;> trivial
  | _ :: _, _ :: _, 0, h, hf => ⟨hf _ _ h.1, h.2⟩
  | _ :: _, _ :: _, i + 1, h, hf => ⟨h.1, All2.modify i h.2 hf⟩
  | [], _ :: _, _, h, _ => h.elim
  | _ :: _, [], _, h, _ => h.elim

theorem mapUpdateD_ok {o : Oper} {t : TypeId} {x i y : Operand} (ho : o.op = .mapUpdate t x i y ∨ o.op = .insert t x i y) {D : Nat} : OpOK P o (mapUpdateD P t x i y (D := D)) := by
  unfold mapUpdateD
  split
  · rename_i kt et hu
    intro c e m v m' h B0 A N ρ a w hw hin hr he hf
    have h : keyOf ((evO P i).f e) (.fail [100]) (fun key => iff (keyOk P kt key) (updR P (keyKs P kt) ((evO P x).f e) ((evO P y).f e) key m) (.fail [108])) = .ok v m' := h
    rcases keyOf_ok h with h | ⟨key, hkey, h, hkr⟩
    · cases h
    · rw [iff_eq] at h
      split at h
      · rename_i hk
        have hvk : TR ρ key (a.eval i) := hkr ρ _ (he.eval hr.glob i)
        have hx := he.eval hr.glob x
        have run : ∀ w', (Instr.mapUpdate t (a.eval x) (a.eval i) (a.eval y)).run P w = .ok () w' → (execOp a.eval o).run P w = .ok .skip w' := fun w' hy => by
          unfold execOp
          rcases ho with ho | ho <;> rw [ho] <;> simp only [Sem.run_bind, hy, Result.andThen_ok, Sem.run_pure]
        unfold updR at h
        split at h
        · rename_i id hxe
          rw [hxe] at hx
          obtain ⟨sg, hsg, hx⟩ := hx
          rcases tvOf_ok h with h | ⟨val, h, _, hval⟩
          · cases h
          · have hval := hval ρ _ (he.eval hr.glob y)
            obtain ⟨rm, hrm, hid, h⟩ := look_ok h
            unfold updOb at h
            split at h
            · rename_i es clock hob
              obtain ⟨kind, hkd, hcheck⟩ := run_checkKey hk false (a.eval i) hvk w
              -- a turn of the map
              have fin : ∀ (es' : List MapE) (clock' k : Nat), turn P id (.mp es' clock') ⟨m.H, m.nx, rm, m.wm, m.dfs⟩ (.fail [k]) okU = .ok v m' →
                  (∀ ents : Array MapEntry, w.heap[sg.blk]? = some (.map ents clock) → All2 (ERel ρ) es ents.toList → ∃ ents' : Array MapEntry, All2 (ERel ρ) es' ents'.toList ∧ (Instr.mapUpdate t (a.eval x) (a.eval i) (a.eval y)).run P w = .ok () (setOb w sg.blk (.map ents' clock'))) →
                  ∃ x w' ρ', Runs P o a w x w' ∧ Done P B0 A ρ m w v m' x w' ρ' := fun es' clock' k h hgo => by
                rcases turn_ok h with h | ⟨hg, h⟩
                · cases h
                · have h : RO.ok undefA ⟨updN hd id m.H (.mp es' clock'), m.nx, min rm id, min m.wm id, m.dfs⟩ = .ok v m' := h
                  cases h
                  have hA := hin id (.inl (Nat.min_le_right _ _))
                  have hat := hr.rows _ _ hsg (.inl hA)
                  rw [hob] at hat
                  obtain ⟨ents, hb, hall⟩ := hat
                  obtain ⟨ents', hall', hrun⟩ := hgo ents hb hall
                  have ho' : OR ρ sg (.mp es' clock') (some (.map ents' clock')) := ⟨ents', rfl, hall'⟩
                  exact ⟨undef, _, ρ, .inr ⟨rfl, run _ hrun⟩, AR.undef ρ, (Post.setOb hw hr hA hsg hg (fun h => by rw [hob] at h; cases h) hb _ _ ho' _ _ _).more (fun i hi => by rw [hi]; exact Nat.min_le_right _ _),
                    Nat.le_trans (Nat.min_le_left _ _) hrm, Nat.min_le_left _ _, rfl⟩
              have sets : ∀ (ents : Array MapEntry) (res : Option (Nat × Value)), w.heap[sg.blk]? = some (.map ents clock) → Finds P (isAg key) kt kind (a.eval i) ents.toList 0 res →
                  ∀ w', ((match res with
                    | some (j, _) => do
                      let key ← Instr.keyThatStays (((ents[j]?).map (·.key)).getD (a.eval i)) (a.eval i)
                      setObj sg.blk (.map (ents.modify j fun e => { e with key, val := a.eval y }) clock)
                    | none => setObj sg.blk (.map (ents.push { key := a.eval i, val := a.eval y, born := clock }) (clock + 1))) : Sem Unit).run P w = .ok () w' → (Instr.mapUpdate t (a.eval x) (a.eval i) (a.eval y)).run P w = .ok () w' := fun ents res hb hfn w' hrest => by
                have hfk : (Instr.findKey kt (a.eval i) ents.toList).run P w = .ok res w := hfn.key hkd hk w
                have hg := run_getObj (P := P) hb (fun _ _ _ h => by cases h)
                rw [hx]
                unfold Instr.mapUpdate
                simp only [Sem.run_bind, run_underlying hu, Result.andThen_ok, hg, hcheck, hfk]
                cases res with
                | none => exact hrest
                | some r => exact hrest
              have h : findG (.fail [103]) (keyKs P kt) key (pushM ⟨key, val, clock⟩ es fun es => num (Nat.succ clock) fun clock => turn P id (.mp es clock) ⟨m.H, m.nx, rm, m.wm, m.dfs⟩ (.fail [104]) okU)
                  (fun j _ => setM j key val es fun es => turn P id (.mp es clock) ⟨m.H, m.nx, rm, m.wm, m.dfs⟩ (.fail [105]) okU) es 0 = .ok v m' := h
              rcases findG_ok hkd hk (.fail [103]) (pushM ⟨key, val, clock⟩ es fun es => num (Nat.succ clock) fun clock => turn P id (.mp es clock) ⟨m.H, m.nx, rm, m.wm, m.dfs⟩ (.fail [104]) okU)
                  (fun j _ => setM j key val es fun es => turn P id (.mp es clock) ⟨m.H, m.nx, rm, m.wm, m.dfs⟩ (.fail [105]) okU) es 0 with h1 | ⟨h1, h2⟩ | ⟨j, x', h1, h3, h2⟩
              · rw [h1] at h; cases h
              · rw [h1, pushM_eq, num_eq] at h
                refine fin _ _ _ h fun ents hb hall => ⟨ents.push { key := a.eval i, val := a.eval y, born := clock }, ?_, sets ents none hb (h2 ρ _ _ hvk hall) _ ?_⟩
                · rw [Array.toList_push]
                  exact All2.append hall ⟨⟨hvk, hval, rfl⟩, trivial⟩
                · exact run_setObj hb (fun _ _ _ h => by cases h)
              · rw [h1, setM_eq, Nat.zero_add] at h
                refine fin _ _ _ h fun ents hb hall => ?_
                obtain ⟨y', hy', her, hfn, hsame⟩ := h2 ρ _ _ hvk hall
                rw [Nat.zero_add] at hfn
                refine ⟨ents.modify j fun e => { e with key := a.eval i, val := a.eval y }, ?_, sets ents _ hb hfn _ ?_⟩
                · rw [Array.toList_modify]
                  exact All2.modify j hall fun p q hpq => ⟨hvk, hval, hpq.born⟩
                · have hold : ((ents[j]?).map (·.key)).getD (a.eval i) = y'.key := by
                    rw [Array.getElem?_toList] at hy'
                    rw [hy']; rfl
                  have hstay : (Instr.keyThatStays y'.key (a.eval i)).run P w = .ok (a.eval i) w := by
                    unfold Instr.keyThatStays
                    rw [if_pos hsame]; rfl
                  simp only [hold, Sem.run_bind, hstay, Result.andThen_ok]
                  exact run_setObj hb (fun _ _ _ h => by cases h)
            · cases h
        · cases h
      · cases h
  · exact OpOK.no

end Go.CE
end WM

/- append, copy. No program is named. -/
noncomputable section WN
namespace Go.CE
open Go

variable {P : Program} {B0 : Nat} {A W W' : Nat → Prop} {ρ ρ' ρ'' : Rho} {m m' m'' : M} {w w' w'' : World}

/-! ### What is appended, or copied -/

/-- Elements that a value holds: their cells. -/
structure Held (P : Program) (ρ : Rho) (w : World) (s n : Nat) (l : List CV) (x : Value) (news : List Value) : Prop where
  len : l.length = n * s
  cells : All2 (CR ρ) l news
  lenOf : ∀ w' : World, (Builtin.lenOf x).run P w' = .ok n w'
  first : ∀ (k : Nat) (w' : World), k ≤ n → w'.heap = w.heap → (Builtin.firstCells s k x).run P w' = .ok (news.take (k * s)).toArray w'

theorem Held.src {s n : Nat} {l : List CV} {x : Value} {news : List Value} (h : Held P ρ w s n l x news) {tx : TypeId} (hk : (∃ e', P.underlying tx = some (.slice e')) ∨ P.underlying tx = some .string) : Src P s tx x n news w := by
  have hl : news.length = n * s := by rw [← h.cells.length, h.len]
  have ht : news.take (n * s) = news := List.take_of_length_le (by omega)
  refine ⟨hk, h.lenOf, ?_, ?_, hl, h.cells.cells⟩
  · have := h.first n w (Nat.le_refl _) rfl; rw [ht] at this; exact this
  · have := h.first n w.drew (Nat.le_refl _) rfl; rw [ht] at this; exact this

theorem byteVs_eq (s : List Nat) : Go.byteCells (bytesOf s) = byteVs s := by
  unfold Go.byteCells byteVs bytesOf
  rfl

theorem srcCells_ok {bad : List Nat} {s : Nat} {x : AV} {k : Nat → List CV → M → RO} {v : AV} (h : srcCells P (.fail bad) s x m k = .ok v m') :
    ∃ n l rm, rm ≤ m.rm ∧ k n l ⟨m.H, m.nx, rm, m.wm, m.dfs⟩ = .ok v m' ∧
      ∀ (A : Nat → Prop) (B0 : Nat) (ρ : Rho) (w : World) (xv : Value), Rel P B0 A ρ m.H w → (∀ id, rm ≤ id → A id) → AR ρ x xv → ∃ news, Held P ρ w s n l xv news := by
  unfold srcCells at h
  split at h
  · refine ⟨0, [], m.rm, Nat.le_refl _, h, fun A B0 ρ w xv _ _ hx => ⟨[], by simp, trivial, fun w' => ?_, fun k w' hk _ => ?_⟩⟩
    · have hx : xv = .slice none 0 0 := hx
      rw [hx]; rfl
    · have hx : xv = .slice none 0 0 := hx
      have : k = 0 := by omega
      subst this
      rw [hx]; simp [Builtin.firstCells, Sem.run_pure]
  · refine ⟨0, [], m.rm, Nat.le_refl _, h, fun A B0 ρ w xv _ _ hx => ⟨[], by simp, trivial, fun w' => ?_, fun k w' hk _ => ?_⟩⟩
    · obtain ⟨b, q, hx⟩ := hx
      rw [hx]; rfl
    · obtain ⟨b, q, hx⟩ := hx
      have : k = 0 := by omega
      subst this
      rw [hx]
      show (loadCells b (0 * s)).run P w' = _
      rw [Nat.zero_mul]; rfl
  · rename_i id off len cap
    rw [num_eq] at h
    obtain ⟨rm, hrm, hid, h⟩ := look_ok h
    unfold rowCells at h
    split at h
    · rename_i el n sz opn fz d t hob
      rw [iff_ble] at h
      split at h
      · rename_i hle
        have hle : off + len * s ≤ n := hle
        rcases takeCells_ok' sz d t (Nat.mul len s) off (RO.fail bad) (fun l => k len l ⟨m.H, m.nx, rm, m.wm, m.dfs⟩) with h1 | ⟨l, h1, hl⟩
        · rw [h1] at h; cases h
        · rw [h1] at h
          refine ⟨len, l, rm, hrm, h, fun A B0 ρ w xv hr hA hx => ?_⟩
          obtain ⟨sg, hsg, hx⟩ := hx
          have hat := hr.rows _ _ hsg (hid.imp (fun h => hA id h) fun h => h)
          rw [hob] at hat
          obtain ⟨c, fr, hb, hrr⟩ := hat
          have hcl : Cells sz d t off (len * s) l := hl n _ hrr.row hle
          have hsz := hrr.size
          refine ⟨_, hcl.len, cells_rel hrr hle hcl, fun w' => by rw [hx]; rfl, fun k' w' hk' hw' => ?_⟩
          have hks : k' * s ≤ len * s := Nat.mul_le_mul_right _ hk'
          rw [hx]
          have hb' : w'.heap[sg.blk]? = some (.cells c el fr) := by rw [hw']; exact hb
          have := run_loadRow (P := P) hb' (o := sg.base + off) (k := k' * s) (by omega)
          rw [List.take_take, Nat.min_eq_left hks]
          exact this
      · cases h
    · cases h
  · rename_i id off len cap
    rw [num_eq] at h
    obtain ⟨rm, hrm, hid, h⟩ := look_ok h
    unfold rowCells at h
    split at h
    · rename_i el n sz opn fz d t hob
      rw [iff_ble] at h
      split at h
      · rename_i hle
        have hle : off + len * s ≤ n := hle
        rcases takeCells_ok' sz d t (Nat.mul len s) off (RO.fail bad) (fun l => k len l ⟨m.H, m.nx, rm, m.wm, m.dfs⟩) with h1 | ⟨l, h1, hl⟩
        · rw [h1] at h; cases h
        · rw [h1] at h
          refine ⟨len, l, rm, hrm, h, fun A B0 ρ w xv hr hA hx => ?_⟩
          obtain ⟨sg, hsg, hx⟩ := hx
          have hat := hr.rows _ _ hsg (hid.imp (fun h => hA id h) fun h => h)
          rw [hob] at hat
          obtain ⟨c, fr, hb, hrr⟩ := hat
          have hcl : Cells sz d t off (len * s) l := hl n _ hrr.row hle
          have hsz := hrr.size
          refine ⟨_, hcl.len, cells_rel hrr hle hcl, fun w' => by rw [hx]; rfl, fun k' w' hk' hw' => ?_⟩
          have hks : k' * s ≤ len * s := Nat.mul_le_mul_right _ hk'
          rw [hx]
          have hb' : w'.heap[sg.blk]? = some (.cells c el fr) := by rw [hw']; exact hb
          have := run_loadRow (P := P) hb' (o := sg.base + off) (k := k' * s) (by omega)
          rw [List.take_take, Nat.min_eq_left hks]
          exact this
      · cases h
    · cases h
  · refine ⟨0, [], m.rm, Nat.le_refl _, h, fun A B0 ρ w xv _ _ hx => ⟨[], by simp, trivial, fun w' => ?_, fun k w' hk _ => ?_⟩⟩
    · obtain ⟨b, hx⟩ := hx
      rw [hx]; rfl
    · obtain ⟨b, hx⟩ := hx
      have : k = 0 := by omega
      subst this
      rw [hx]
      show (loadCells b (0 * s)).run P w' = _
      rw [Nat.zero_mul]; rfl
  · rename_i b
    rw [iff_eq] at h
    split at h
    · rename_i hs
      have hs : s = 1 := Nat.eq_of_beq_eq_true hs
      subst hs
      rw [byteCells_eq, num_eq] at h
      refine ⟨b.length, b.map u8, m.rm, Nat.le_refl _, by rw [List.length_map] at h; exact h, fun A B0 ρ w xv _ _ hx => ⟨byteVs b, by simp, bytes_cells ρ b hx.2, fun w' => ?_, fun k w' hk _ => ?_⟩⟩
      · have hx : xv = .string (bytesOf b) := hx.1
        rw [hx]
        show Result.ok (bytesOf b).size w' = _
        rw [bytesOf_size]
      · have hx : xv = .string (bytesOf b) := hx.1
        rw [hx]
        simp only [Builtin.firstCells, Sem.run_pure, Nat.mul_one]
        congr 1
        apply Array.ext'
        simp [byteVs, bytesOf, List.map_take]
    · cases h
  · cases h

/-! ### append -/

theorem append_types {argTypes : Array TypeId} {t u : TypeId} (h0 : argTypes[0]? = some t) (h1 : argTypes[1]? = some u) (ty : TypeId) (args : Array Value) : Builtin.append_ argTypes ty args = Builtin.append_ #[t, u] ty args := by
  unfold Builtin.append_
  rw [h0, h1]
  rfl

theorem run_append_in (t tx ty e : TypeId) (i : TypeInfo) (ht : P.underlying t = some (.slice e)) (hi : P.info? e = some i) (a : Addr) (sLen sCap : Nat) (x : Value) (n : Nat) (news : List Value) (hs : Src P i.size tx x n news w)
    (hroom : sLen + n ≤ sCap) (hst : (storeCells (a.add (sLen * i.size)) news).run P w = .ok () w') :
    (Builtin.append_ #[t, tx] ty #[.slice (some a) sLen sCap, x]).run P w = .ok (.slice (some a) (sLen + n) sCap) w' := by
  rcases hs.kind with ⟨e', hk⟩ | hk <;> simp [Builtin.append_, run_underlying ht, run_underlying hk, sizeOf, typeInfo, hi, hs.len, hroom, hs.cells, hst]

theorem run_append_nothing' (t tx ty e : TypeId) (i : TypeInfo) (ht : P.underlying t = some (.slice e)) (hi : P.info? e = some i) (x : Value) (hs : Src P i.size tx x 0 [] w) :
    (Builtin.append_ #[t, tx] ty #[.slice none 0 0, x]).run P w = .ok (.slice none 0 0) w := by
  rcases hs.kind with ⟨e', hk⟩ | hk <;> simp [Builtin.append_, run_underlying ht, run_underlying hk, sizeOf, typeInfo, hi, hs.len, hs.cells]

/-- What a row is, behind an append that made one. -/
structure Grown (len s need off : Nat) (l : List CV) (d : Nat) (t : NT d TV) (n sz : Nat) (d' : Nat) (t' : NT d' TV) : Prop where
  row : need * s = len * s + l.length → ∀ f, Row sz d n t f → off + len * s ≤ n → Row s d' (need * s) t' fun i => if i < len * s then f (off + i) else l.getD (i - len * s) (.ref .top)

theorem appendOn_ok {elem s need len want fz n : Nat} {d : Nat} {t : NT d TV} {l : List CV} {v : AV} (h : appendOn elem s need len (len * s) want fz d t l m = .ok v m') :
    ∃ d' t', Grown len s need 0 l d t n s d' t' ∧ fresh (.row elem want s true (newFz fz 0 (len * s)) d' t') m (.fail [144]) (okSlc need need) = .ok v m' := by
  unfold appendOn at h
  obtain ⟨d', t1, h1, hcap, hsame⟩ := growT_ok need d t (fun d t => iff (Nat.ble need (capN d)) (pieces s l (.fail [144]) fun ps => layPs d ps t len fun t => num (newFz fz 0 (len * s)) fun fz => fresh (.row elem want s true fz d t) m (.fail [144]) (okSlc need need)) (.fail [145]))
  rw [h1, iff_ble] at h
  split at h
  · rename_i hle
    rcases pieces_ok s l (RO.fail [144]) (fun ps => layPs d' ps t1 len fun t => num (newFz fz 0 (len * s)) fun fz => fresh (.row elem want s true fz d' t) m (.fail [144]) (okSlc need need)) with h2 | ⟨ps, h2, hps⟩
    · rw [h2] at h; cases h
    · rw [h2, layPs_eq, num_eq] at h
      refine ⟨d', _, ⟨fun hneed f hr hn => ?_⟩, h⟩
      have hlev : ∀ q, q * s < len * s → q < capN d := fun q hq => hr.lev q (by omega)
      have hcell : ∀ i, i < len * s → cellAt s d' t1 i = f i := fun i hi => by
        rw [← hr.cell i (by omega)]
        unfold cellAt
        rw [hsame _ (hlev _ (by have := Nat.div_mul_le_self i s; omega))]
      have := lay_row (n0 := len * s) (n := need * s) (q := len) (t := t1) (f := f) hcell
        (fun q hq => by rw [hsame _ (hlev q hq)]; exact hr.whole q (by omega)) (fun q hq => Nat.lt_of_lt_of_le (Nat.lt_of_mul_lt_mul_right hq) hle) (Nat.mul_mod_left _ _) hps (Nat.le_refl _) (by omega) (fun i hi => by omega)
      refine this.ext fun i hi => ?_
      by_cases hlt : i < len * s
      · rw [if_neg (by omega), if_pos hlt, Nat.zero_add]
      · rw [if_pos (by omega), if_neg hlt]
  · cases h

theorem appendCopy_ok {elem s need len want fz off sz n : Nat} {d : Nat} {t : NT d TV} {l : List CV} {v : AV} (h : appendCopy elem s need (len * s) want fz off sz d t l m = .ok v m') (hs : 0 < s) (hcap : need ≤ capN 5) :
    ∃ d' t', Grown len s need off l d t n sz d' t' ∧ fresh (.row elem want s true (newFz fz off (len * s)) d' t') m (.fail [146]) (okSlc need need) = .ok v m' := by
  unfold appendCopy at h
  rcases takeCells_ok' sz d t (len * s) off (RO.fail [146]) (fun old => appC old l fun cs => pieces s cs (.fail [147]) fun ps => num (lev need) fun d => bld topT d ps fun t _ => num (newFz fz off (len * s)) fun fz => fresh (.row elem want s true fz d t) m (.fail [146]) (okSlc need need)) with h1 | ⟨old, h1, hold⟩
  · rw [h1] at h; cases h
  · rw [h1, appC_eq] at h
    rcases pieces_ok s (old ++ l) (RO.fail [147]) (fun ps => num (lev need) fun d => bld topT d ps fun t _ => num (newFz fz off (len * s)) fun fz => fresh (.row elem want s true fz d t) m (.fail [146]) (okSlc need need)) with h2 | ⟨ps, h2, hps⟩
    · rw [h2] at h; cases h
    · rw [h2, num_eq] at h
      obtain ⟨t', h3, h4⟩ := bld_ok topT (lev need) ps (fun t _ => num (newFz fz off (len * s)) fun fz => fresh (.row elem want s true fz (lev need) t) m (.fail [146]) (okSlc need need))
      rw [h3, num_eq] at h
      refine ⟨_, t', ⟨fun hneed f hr hn => ?_⟩, h⟩
      have hc := hold n f hr hn
      have hlen : (old ++ l).length = need * s := by rw [List.length_append, hc.len, hneed]
      have hpl : ps.length = need := by
        have := hps.len
        rw [hlen] at this
        exact Nat.mul_right_cancel hs this
      have hrow := Row.of_pieces hps (by rw [hpl]; exact lev_ok _ hcap) h4
      rw [hlen] at hrow
      refine hrow.ext fun i hi => ?_
      rw [List.getD_eq_getElem?_getD, List.getElem?_append, hc.len]
      by_cases hlt : i < len * s
      · rw [if_pos hlt, if_pos hlt, ← List.getD_eq_getElem?_getD, hc.cell i hlt]
        exact hr.cell _ (by omega)
      · rw [if_neg hlt, if_neg hlt, List.getD_eq_getElem?_getD]

theorem killK_ok {opn : Bool} {id fz lim : Nat} {k : M → RO} {v : AV} (h : killK P opn id fz lim m k = .ok v m') :
    (opn = false ∧ k m = .ok v m') ∨ (opn = true ∧ fz / 2 ≤ lim ∧ glb P ≤ id ∧ k ⟨updN hd id m.H .dead, m.nx, min m.rm id, min m.wm id, m.dfs⟩ = .ok v m') := by
  unfold killK at h
  split at h
  · rw [iff_ble] at h
    split at h
    · rename_i hle
      rcases turn_ok h with h | ⟨hg, h⟩
      · cases h
      · exact .inr ⟨rfl, hle, hg, h⟩
    · cases h
  · exact .inl ⟨rfl, h⟩

theorem appendNew_ok {elem id off cap s need len : Nat} {l : List CV} {ob : Ob} {v : AV} (h : appendNew P elem id off cap s need len l ob m = .ok v m') (hs : 0 < s) :
    ∃ n sz opn fz d t d' t' m2, ob = .row elem n sz opn fz d t ∧ off + cap * s ≤ n ∧ len ≤ cap ∧ (opn = true → sz = s) ∧ Grown len s need off l d t n sz d' t' ∧
      ((opn = false ∧ m2 = m) ∨ (opn = true ∧ fz / 2 ≤ off + len * s ∧ glb P ≤ id ∧ m2 = ⟨updN hd id m.H .dead, m.nx, min m.rm id, min m.wm id, m.dfs⟩)) ∧
      m2.nx < capN hd ∧ v = .c (.ref (.slc m2.nx 0 need need)) ∧ m' = ⟨updN hd m2.nx m2.H (.row elem (need * s) s true (newFz fz off (len * s)) d' t'), m2.nx + 1, m2.rm, m2.wm, m2.dfs⟩ := by
  unfold appendNew at h
  split at h
  · rename_i el n sz opn fz d t
    rw [iff_eq] at h
    split at h
    · rename_i hc
      simp only [Bool.and_eq_true, ble_iff] at hc
      obtain ⟨⟨⟨⟨h1, h2⟩, h3⟩, h4⟩, h5⟩ := hc
      have h3 : el = elem := Nat.eq_of_beq_eq_true h3
      subst h3
      have h5 : opn = true → sz = s := fun ho => by subst ho; exact Nat.eq_of_beq_eq_true h5
      simp only [num_eq] at h
      -- the rest, from where it goes on
      have rest : ∀ m2 : M, iff (Nat.beq off 0 && Nat.beq sz s) (appendOn el s need len (Nat.mul len s) (Nat.mul need s) fz d t l m2) (appendCopy el s need (Nat.mul len s) (Nat.mul need s) fz off sz d t l m2) = .ok v m' →
          ∃ d' t', Grown len s need off l d t n sz d' t' ∧ m2.nx < capN hd ∧ v = .c (.ref (.slc m2.nx 0 need need)) ∧ m' = ⟨updN hd m2.nx m2.H (.row el (need * s) s true (newFz fz off (len * s)) d' t'), m2.nx + 1, m2.rm, m2.wm, m2.dfs⟩ := fun m2 hgo => by
        rw [iff_eq] at hgo
        have fin : ∀ (d' : Nat) (t' : NT d' TV) (k : Nat), fresh (.row el (need * s) s true (newFz fz off (len * s)) d' t') m2 (.fail [k]) (okSlc need need) = .ok v m' →
            m2.nx < capN hd ∧ v = .c (.ref (.slc m2.nx 0 need need)) ∧ m' = ⟨updN hd m2.nx m2.H (.row el (need * s) s true (newFz fz off (len * s)) d' t'), m2.nx + 1, m2.rm, m2.wm, m2.dfs⟩ := fun d' t' k h => by
          rcases fresh_ok h with h | ⟨hnx, h⟩
          · cases h
          · obtain ⟨rfl, rfl⟩ := okSlc_eq h
            exact ⟨hnx, rfl, rfl⟩
        split at hgo
        · rename_i hc
          simp only [Bool.and_eq_true] at hc
          have ho : off = 0 := Nat.eq_of_beq_eq_true hc.1
          have hz : sz = s := Nat.eq_of_beq_eq_true hc.2
          subst ho; subst hz
          obtain ⟨d', t', hg, h⟩ := appendOn_ok (n := n) hgo
          exact ⟨d', t', hg, fin d' t' 144 h⟩
        · obtain ⟨d', t', hg, h⟩ := appendCopy_ok (n := n) hgo hs h4
          exact ⟨d', t', hg, fin d' t' 146 h⟩
      rcases killK_ok h with ⟨ho, h⟩ | ⟨ho, hfz, hg, h⟩
      · obtain ⟨d', t', a, b, c, e⟩ := rest _ h
        exact ⟨n, sz, opn, fz, d, t, d', t', _, rfl, h1, h2, h5, a, .inl ⟨ho, rfl⟩, b, c, e⟩
      · obtain ⟨d', t', a, b, c, e⟩ := rest _ h
        exact ⟨n, sz, opn, fz, d, t, d', t', _, rfl, h1, h2, h5, a, .inr ⟨ho, hfz, hg, rfl⟩, b, c, e⟩
    · cases h
  · cases h

/-- A piece of a row, as a row of its own. -/
theorem newFz_half {fz off hv j : Nat} (h : newFz fz off hv / 2 ≤ j) : fz / 2 = 0 ∨ hv ≤ j := by
  have e : Nat.mul 2 hv = 2 * hv := rfl
  have e' : Nat.mul 2 (Nat.succ hv) = 2 * (hv + 1) := rfl
  unfold newFz at h
  simp only [iff_eq] at h
  split at h
  · rename_i h0; have := Nat.eq_of_beq_eq_true h0; omega
  · split at h
    · split at h
      · rename_i h0; have := Nat.eq_of_beq_eq_true h0; omega
      · split at h
        · rw [e] at h; omega
        · rw [e'] at h; omega
    · rw [e'] at h; omega

theorem newFz_zero {fz off hv : Nat} (h : newFz fz off hv = 0) : fz = 0 := by
  have e : Nat.mul 2 hv = 2 * hv := rfl
  have e' : Nat.mul 2 (Nat.succ hv) = 2 * (hv + 1) := rfl
  unfold newFz at h
  simp only [iff_eq] at h
  split at h
  · rename_i h0; exact Nat.eq_of_beq_eq_true h0
  · split at h
    · split at h
      · cases h
      · split at h
        · rw [e] at h; omega
        · rw [e'] at h; omega
    · rw [e'] at h; omega

theorem newFz_odd {fz off hv : Nat} (h : newFz fz off hv % 2 = 1) : off = 0 ∧ fz % 2 = 1 ∧ ((newFz fz off hv / 2 = 0 ∧ fz = 1) ∨ newFz fz off hv / 2 = hv) := by
  have e : Nat.mul 2 hv = 2 * hv := rfl
  have e' : Nat.mul 2 (Nat.succ hv) = 2 * (hv + 1) := rfl
  unfold newFz at h ⊢
  simp only [iff_eq] at h ⊢
  split at h
  · omega
  · rename_i hz
    rw [if_neg hz]
    split at h
    · rename_i h0
      rw [if_pos h0]
      have hoff := Nat.eq_of_beq_eq_true h0
      split at h
      · rename_i h1
        rw [if_pos h1]
        have hone := Nat.eq_of_beq_eq_true h1
        exact ⟨hoff, by omega, .inl ⟨rfl, hone⟩⟩
      · rename_i h1
        rw [if_neg h1]
        split at h
        · rename_i h2
          rw [if_pos h2]
          have h2 : fz % 2 = 1 := Nat.eq_of_beq_eq_true h2
          refine ⟨by omega, h2, .inr ?_⟩
          rw [e]; omega
        · rw [e'] at h; omega
    · rw [e'] at h; omega

theorem RowR.seg {s d n fz : Nat} {t : NT d TV} {L : List CV} {c : Array Value} {fr : Nat × Nat} {b x blk : Nat} (hrow : Row s d n t fun i => L.getD i (.ref .top)) (hL : L.length = n) (hall : All2 (CR ρ) L ((c.toList.drop b).take n))
    (hsz : b + n + x * s ≤ c.size) (hfree : ∀ i, fz / 2 ≤ i → i < n + x * s → (decide (fr.1 ≤ b + i) && decide (b + i < fr.2)) = false) (hplain : fz % 2 = 1 → b = 0 ∧ (fr.1 = fr.2 ∨ fr.2 ≤ fz / 2)) (hhigh : fz = 0 → fr.1 = fr.2 ∨ c.size ≤ fr.1) : RowR ρ ⟨blk, b, x⟩ n s true fz d t c fr := by
  refine ⟨fun i hi => ?_, hrow.whole, hrow.lev, hrow.mult, hsz, (fun h => by cases h), hfree, hplain, hhigh⟩
  obtain ⟨y, hy, hc⟩ := hall.get i (L[i]'(by omega)) (List.getElem?_eq_getElem _)
  rw [List.getElem?_take_of_lt hi, List.getElem?_drop, Array.getElem?_toList] at hy
  refine ⟨y, hy, ?_⟩
  rw [hrow.cell i hi, List.getD_eq_getElem?_getD, List.getElem?_eq_getElem (by omega)]
  exact hc

/-- The cells that a row had, told. -/
def oldL (sz d : Nat) (t : NT d TV) (off k : Nat) : List CV := (List.range k).map fun i => cellAt sz d t (off + i)

theorem oldL_ok (sz d : Nat) (t : NT d TV) (off k : Nat) : Cells sz d t off k (oldL sz d t off k) := by
  refine ⟨by simp [oldL], fun j hj => ?_⟩
  simp [oldL, List.getD_eq_getElem?_getD, hj]

theorem Grown.list {len s need off : Nat} {l : List CV} {d : Nat} {t : NT d TV} {n sz d' : Nat} {t' : NT d' TV} (h : Grown len s need off l d t n sz d' t') (hneed : need * s = len * s + l.length) (hr : Row sz d n t (cellAt sz d t)) (hle : off + len * s ≤ n) :
    Row s d' (need * s) t' fun i => (oldL sz d t off (len * s) ++ l).getD i (.ref .top) := by
  refine (h.row hneed _ hr hle).ext fun i hi => ?_
  have ho := oldL_ok sz d t off (len * s)
  rw [List.getD_eq_getElem?_getD (l := _ ++ _), List.getElem?_append, ho.len]
  by_cases hlt : i < len * s
  · rw [if_pos hlt, if_pos hlt, ← List.getD_eq_getElem?_getD, ho.cell i hlt]
  · rw [if_neg hlt, if_neg hlt, List.getD_eq_getElem?_getD]

theorem cut_laid (C news : List Value) (b k : Nat) (h : b + k ≤ C.length) : (((C.take (b + k) ++ news ++ C.drop (b + k + news.length)).drop b).take (k + news.length)) = (C.drop b).take k ++ news := by
  rw [List.append_assoc, List.drop_append_of_le_length (by rw [List.length_take]; omega), List.drop_take, show b + k - b = k by omega, ← List.append_assoc]
  rw [List.take_left' (by rw [List.length_append, List.length_take, List.length_drop]; omega)]

theorem exec_append {o : Oper} {c : Call} {t u : TypeId} {x y : Operand} (ho : o.op = .call c) (hc : c.callee = .builtin .append) (ha : c.args.toList = [x, y]) (h0 : c.argTypes[0]? = some t) (h1 : c.argTypes[1]? = some u) (e : Operand → Value) {z : Value} {w w' : World}
    (h : (Builtin.append_ #[t, u] o.type #[e x, e y]).run P w = .ok z w') : (execOp e o).run P w = .ok (.value z) w' := by
  have hargs : c.args = #[x, y] := Array.toList_inj.1 (by rw [ha])
  rw [execBuiltin ho hc, hargs]
  simp only [builtin, append_types h0 h1, Sem.run_bind, List.map_toArray, List.map_cons, List.map_nil, h, Result.andThen_ok, Sem.run_pure]

theorem appendL_ok {o : Oper} {c : Call} {t u e : TypeId} {i : TypeInfo} {x y : Operand} (ho : o.op = .call c) (hc : c.callee = .builtin .append) (ha : c.args.toList = [x, y]) (h0 : c.argTypes[0]? = some t) (h1 : c.argTypes[1]? = some u)
    (ht : P.underlying t = some (.slice e)) (hk : (∃ e', P.underlying u = some (.slice e')) ∨ P.underlying u = some .string) (hi : P.info? e = some i) {D : Nat} : OpOK P o (appendL P e i x y (D := D)) := by
  unfold appendL
  rw [iff_eq]
  split
  · rename_i hcond
    simp only [Bool.and_eq_true, ble_iff] at hcond
    obtain ⟨⟨hs1, hbytes⟩, hzz⟩ := hcond
    have hs1 : 1 ≤ i.size := hs1
    obtain ⟨z, hz, hzs⟩ : ∃ z, i.zero = some z ∧ z.cells.size = i.size := by
      unfold zeroSz at hzz
      split at hzz
      · rename_i z hz; exact ⟨z, hz, Nat.eq_of_beq_eq_true hzz⟩
      · cases hzz
    intro cx ev m v m' h B0 A N ρ a w hw hin hr he hf
    have h : srcCells P (.fail [151]) i.size ((evO P y).f ev) m (fun n l m => appendTo P e i.size ((evO P x).f ev) n l m) = .ok v m' := h
    obtain ⟨n, l, rm, hrm, h, hsrc⟩ := srcCells_ok h
    have hxv := he.eval hr.glob x
    have hyv := he.eval hr.glob y
    -- what is appended
    have src : m'.rm ≤ rm → ∃ news, Held P ρ w i.size n l (a.eval y) news ∧ Src P i.size u (a.eval y) n news w := fun hle => by
      obtain ⟨news, hh⟩ := hsrc A B0 ρ w _ hr (fun id hid => hin id (.inl (Nat.le_trans hle hid))) hyv
      exact ⟨news, hh, hh.src hk⟩
    have exec : ∀ {z w'}, (Builtin.append_ #[t, u] o.type #[a.eval x, a.eval y]).run P w = .ok z w' → Runs P o a w z w' := fun h => .inl (exec_append ho hc ha h0 h1 a.eval h)
    -- room for what grows
    have fits : ∀ need old, old < need → need ≤ 1000000 → ((need : Nat) : Int) ≤ 9223372036854775807 ∧ Builtin.nextslicecap need old * i.bytes ≤ 281474976710656 := fun need old h1 h2 => by
      refine ⟨by omega, growslice_fits h1 ?_⟩
      have := Nat.mul_le_mul h2 hbytes
      omega
    unfold appendTo at h
    split at h
    · rename_i hxe
      rw [hxe] at hxv
      have hxv : a.eval x = .slice none 0 0 := hxv
      rw [iff_eq] at h
      split at h
      · rename_i hn
        have hn : n = 0 := Nat.eq_of_beq_eq_true hn
        cases h
        obtain ⟨news, hh, hsr⟩ := src (Nat.le_refl _)
        have hnews : news = [] := List.length_eq_zero_iff.1 (by rw [hsr.newsLen, hn, Nat.zero_mul])
        rw [hn, hnews] at hsr
        refine ⟨_, w, ρ, exec ?_, Done.looked hw hr hrm rfl⟩
        rw [hxv]
        exact run_append_nothing' t u o.type e i ht hi _ hsr
      · rename_i hn
        have hn : n ≠ 0 := fun e => hn (by rw [e]; rfl)
        unfold appendNil at h
        rw [iff_eq] at h
        split at h
        · rename_i hcap
          simp only [Bool.and_eq_true, ble_iff] at hcap
          simp only [num_eq] at h
          rcases pieces_ok i.size l (RO.fail [152]) (fun ps => bld topT (lev n) ps fun t _ => fresh (.row e l.length i.size true 1 (lev n) t) ⟨m.H, m.nx, rm, m.wm, m.dfs⟩ (.fail [152]) (okSlc n n)) with h2 | ⟨ps, h2, hps⟩
          · rw [h2] at h; cases h
          · rw [h2] at h
            obtain ⟨tr, h3, h4⟩ := bld_ok topT (lev n) ps (fun t _ => fresh (.row e l.length i.size true 1 (lev n) t) ⟨m.H, m.nx, rm, m.wm, m.dfs⟩ (.fail [152]) (okSlc n n))
            rw [h3] at h
            rcases fresh_ok h with h | ⟨hnx, h⟩
            · cases h
            · obtain ⟨rfl, rfl⟩ := okSlc_eq h
              have hρ := hf.one rfl
              obtain ⟨news, hh, hsr⟩ := src (Nat.le_refl _)
              obtain ⟨f1, f2⟩ := fits n 0 (by omega) hcap.1
              have hrun := run_append_grow_src w t u o.type e i z ht hi hz none 0 0 [] rfl (a.eval y) n news hsr (by omega) (by rw [Nat.zero_add]; exact f1) (by rw [Nat.zero_add]; exact f2)
              rw [Nat.zero_add] at hrun
              have hge := grownCap_ge w n 0 e
              have hnl : news.length = l.length := hh.cells.length.symm
              have hpl : ps.length = n := by
                have := hps.len
                rw [hh.len] at this
                exact Nat.mul_right_cancel hs1 this
              refine ⟨_, _, _, exec (by rw [hxv]; exact hrun), ⟨?_, (Post.alloc hw hr.drew hnx hρ _ _ (grownCap w n 0 e - n) ?_ _ _ _).drew_l, hrm, Nat.le_refl _, rfl⟩⟩
              · refine ⟨_, ins_self _ _, ?_⟩
                show Value.slice (some ⟨w.heap.size, 0, none⟩) n (grownCap w n 0 e) = .slice (some ⟨w.heap.size, 0, none⟩) n (n + (grownCap w n 0 e - n))
                rw [show n + (grownCap w n 0 e - n) = grownCap w n 0 e by omega]
              · refine ⟨_, _, rfl, RowR.seg (Row.of_pieces hps (by rw [hpl]; exact lev_ok _ hcap.2) h4) rfl ?_ ?_ (fun i _ _ => by simp) (fun _ => ⟨rfl, .inl rfl⟩) fun _ => .inl rfl⟩
                · rw [List.drop_zero, List.nil_append]
                  simp only [Array.toList_append]
                  rw [List.take_left' (by simp [hnl])]
                  exact All2.mono (fun _ _ => CR.mono (ins_ext hρ)) hh.cells
                · simp only [List.nil_append, Array.size_append, List.size_toArray, size_zeroCells, hnl, hzs]
                  omega
        · cases h
    · rename_i id off len cap hxe
      rw [hxe] at hxv
      obtain ⟨sg, hsg, hxv⟩ := hxv
      rw [iff_eq] at h
      split at h
      · rename_i hn
        have hn : n = 0 := Nat.eq_of_beq_eq_true hn
        rw [iff_ble] at h
        split at h
        · rename_i hlc
          cases h
          obtain ⟨news, hh, hsr⟩ := src (Nat.le_refl _)
          have hnews : news = [] := List.length_eq_zero_iff.1 (by rw [hsr.newsLen, hn, Nat.zero_mul])
          rw [hn, hnews] at hsr
          refine ⟨_, w, ρ, exec ?_, Done.looked hw hr hrm ⟨sg, hsg, rfl⟩⟩
          rw [hxv]
          exact run_append_in t u o.type e i ht hi _ len (cap + sg.ext) _ 0 [] hsr (by omega) rfl
        · cases h
      · rename_i hn
        rw [num_eq, iff_ble] at h
        split at h
        · rename_i hneed
          have hneed : len + n ≤ 1000000 := hneed
          obtain ⟨rm2, hrm2, hid, h⟩ := look_ok h
          have hrm2 : rm2 ≤ rm := hrm2
          unfold appendRow at h
          rw [iff_ble] at h
          split at h
          · -- there is room
            rename_i hroom
            have hroom : len + n ≤ cap := hroom
            unfold appendIn at h
            split at h
            · rename_i el n' sz opn fz d tr hob
              rw [iff_eq] at h
              split at h
              · rename_i hc2
                simp only [Bool.and_eq_true, ble_iff] at hc2
                have hle : off + (len + n) * i.size ≤ n' := hc2.1
                have hfz : fz / 2 ≤ off + len * i.size := hc2.2
                rw [num_eq] at h
                rcases layCells_ok sz d tr l l.length (Nat.add off (Nat.mul len i.size)) (RO.fail [238]) (fun t => turn P id (.row el n' sz opn fz d t) ⟨m.H, m.nx, rm2, m.wm, m.dfs⟩ (.fail [139]) fun m => .ok (.c (.ref (.slc id off (Nat.add len n) cap))) m) rfl with h1 | ⟨tr', h1, hrow⟩
                · rw [h1] at h; cases h
                · rw [h1] at h
                  rcases turn_ok h with h | ⟨hg, h⟩
                  · cases h
                  · cases h
                    have hA := hin id (.inl (Nat.min_le_right _ _))
                    obtain ⟨news, hh, hsr⟩ := src (Nat.le_trans (Nat.min_le_left _ _) hrm2)
                    have hat := hr.rows _ _ hsg (.inl hA)
                    have hob : obj m.H id = .row el n' sz opn fz d tr := hob
                    rw [hob] at hat
                    obtain ⟨c, fr, hb, hrr⟩ := hat
                    have hll : l.length = n * i.size := hh.len
                    have hmul : (len + n) * i.size = len * i.size + n * i.size := Nat.add_mul _ _ _
                    have hst := run_stored (P := P) hb hrr hh.cells (off := off + len * i.size) (by rw [hll]; have := Nat.le_add_right n' (sg.ext * sz); omega) hfz
                    refine ⟨_, _, ρ, exec (by rw [hxv]; exact run_append_in t u o.type e i ht hi _ len (cap + sg.ext) _ n news hsr (by omega) (by rw [Addr.add_plain, Nat.add_assoc]; exact hst)), ⟨⟨sg, hsg, rfl⟩,
                      (Post.stored hw hr hA hsg hg hob hb hrr hh.cells (by rw [hll]; show off + len * i.size + n * i.size ≤ n'; omega) (hrow _ _ hrr.row (by rw [hll]; show off + len * i.size + n * i.size ≤ n'; omega)) _ _ _).more (fun j hj => by rw [hj]; exact Nat.min_le_right _ _),
                      Nat.le_trans (Nat.min_le_left _ _) (Nat.le_trans hrm2 hrm), Nat.min_le_left _ _, rfl⟩⟩
              · cases h
            · cases h
          · -- there is none, as far as is known
            rename_i hroom
            have hroom : cap < len + n := Nat.lt_of_not_le hroom
            obtain ⟨n', sz, opn, fz, d, tr, d', tr', m2, hob, hcap, hlc, hos, hgrown, hkill, hnx, rfl, hm'⟩ := appendNew_ok h hs1
            have hob : obj m.H id = .row e n' sz opn fz d tr := hob
            have hm2 : m2.rm ≤ rm2 ∧ m2.nx = m.nx := by
              rcases hkill with ⟨_, rfl⟩ | ⟨_, _, _, rfl⟩
              · exact ⟨Nat.le_refl _, rfl⟩
              · exact ⟨Nat.min_le_left _ _, rfl⟩
            have hle2 : m'.rm ≤ rm2 := by rw [hm']; exact hm2.1
            obtain ⟨news, hh, hsr⟩ := src (Nat.le_trans hle2 hrm2)
            have hat := hr.rows _ _ hsg (hid.imp (fun h => hin id (.inl (Nat.le_trans hle2 h))) fun h => h)
            rw [hob] at hat
            obtain ⟨c, fr, hb, hrr⟩ := hat
            have hll : l.length = n * i.size := hh.len
            have hnl : news.length = l.length := hh.cells.length.symm
            have hmul : (len + n) * i.size = len * i.size + l.length := by rw [hll]; exact Nat.add_mul _ _ _
            have hcm : len * i.size ≤ cap * i.size := Nat.mul_le_mul_right _ hlc
            have hleo : off + len * i.size ≤ n' := by omega
            have hsz := hrr.size
            have hρ := hf.one (by rw [hm']; show m2.nx + 1 = _; rw [hm2.2])
            have hnx : m.nx < capN hd := by rw [← hm2.2]; exact hnx
            have hlist := hgrown.list hmul hrr.row hleo
            have hL : (oldL sz d tr off (len * i.size) ++ l).length = (len + n) * i.size := by rw [List.length_append, (oldL_ok sz d tr off _).len, hmul]
            have holds : All2 (CR ρ) (oldL sz d tr off (len * i.size)) ((c.toList.drop (sg.base + off)).take (len * i.size)) := cells_rel hrr hleo (oldL_ok _ _ _ _ _)
            have hol : ((c.toList.drop (sg.base + off)).take (len * i.size)).length = len * i.size := by rw [← holds.length, (oldL_ok sz d tr off _).len]
            -- a new row
            have grow : cap + sg.ext < len + n → ∃ r, (Builtin.append_ #[t, u] o.type #[a.eval x, a.eval y]).run P w = .ok (.slice (some ⟨w.heap.size, 0, none⟩) (len + n) (len + n + r)) (w.drew.alloc (.cells (((c.toList.drop (sg.base + off)).take (len * i.size) ++ news).toArray ++ Builtin.zeroCells z.cells r) e)) := fun hg => by
              obtain ⟨f1, f2⟩ := fits (len + n) (cap + sg.ext) hg hneed
              have hold : (Builtin.firstCells i.size len (.slice (some ⟨sg.blk, sg.base + off, none⟩) len (cap + sg.ext))).run P w.drew = .ok ((c.toList.drop (sg.base + off)).take (len * i.size)).toArray w.drew :=
                run_loadRow (P := P) (w := w.drew) hb (by omega)
              have hrun := run_append_grow_src w t u o.type e i z ht hi hz _ len (cap + sg.ext) _ hold (a.eval y) n news hsr hg f1 f2
              have hge := grownCap_ge w (len + n) (cap + sg.ext) e
              refine ⟨grownCap w (len + n) (cap + sg.ext) e - (len + n), ?_⟩
              rw [show len + n + (grownCap w (len + n) (cap + sg.ext) e - (len + n)) = grownCap w (len + n) (cap + sg.ext) e by omega]
              have hxv : a.eval x = .slice (some ⟨sg.blk, sg.base + off, none⟩) len (cap + sg.ext) := hxv
              rw [hxv]; exact hrun
            have newrow : ∀ (r : Nat) (ρ' : Rho), Ext ρ ρ' → OR ρ' ⟨w.heap.size, 0, r⟩ (.row e ((len + n) * i.size) i.size true (newFz fz off (len * i.size)) d' tr') (some (.cells (((c.toList.drop (sg.base + off)).take (len * i.size) ++ news).toArray ++ Builtin.zeroCells z.cells r) e)) := fun r ρ' hext => by
              refine ⟨_, _, rfl, RowR.seg hlist hL ?_ ?_ (fun i _ _ => by simp) (fun _ => ⟨rfl, .inl rfl⟩) fun _ => .inl rfl⟩
              · rw [List.drop_zero]
                simp only [Array.toList_append]
                rw [List.take_left' (by rw [List.length_append, hol, hnl, hmul])]
                exact All2.mono (fun _ _ => CR.mono hext) (All2.append holds hh.cells)
              · simp only [Array.size_append, List.size_toArray, List.length_append, hol, size_zeroCells, hnl, hzs]
                omega
            rcases hkill with ⟨ho, rfl⟩ | ⟨ho, hfz, hg, rfl⟩
            · -- it had no room
              subst ho
              have hext := (hrr.shut rfl).1
              obtain ⟨r, hrun⟩ := grow (by rw [hext]; exact hroom)
              subst hm'
              exact ⟨_, _, _, exec hrun, ⟨⟨_, ins_self _ _, rfl⟩, (Post.alloc hw hr.drew hnx hρ _ _ r (newrow r _ (ins_ext hρ)) _ _ _).drew_l, Nat.le_trans hrm2 hrm, Nat.le_refl _, rfl⟩⟩
            · -- it may have had
              subst hm'
              have hA : A id := hin id (.inl (Nat.min_le_right _ _))
              have hlive : Live m.H id := fun h => by rw [hob] at h; cases h
              by_cases hroom2 : len + n ≤ cap + sg.ext
              · -- it had
                have hsz' := hos ho
                subst ho
                have hroomc := hrr.room
                have hexts : (cap + sg.ext) * i.size = cap * i.size + sg.ext * i.size := Nat.add_mul _ _ _
                have hneedc : (len + n) * i.size ≤ (cap + sg.ext) * i.size := Nat.mul_le_mul_right _ hroom2
                have hst := run_stored (P := P) hb hrr hh.cells (off := off + len * i.size) (by rw [hsz']; omega) hfz
                have hcl : c.toList.length = c.size := Array.length_toList
                have hcut := cut_laid c.toList news (sg.base + off) (len * i.size) (by omega)
                have hrest : (cap + sg.ext - (len + n)) * i.size = (cap + sg.ext) * i.size - (len + n) * i.size := Nat.sub_mul _ _ _
                refine ⟨_, _, _, exec (by rw [hxv]; exact run_append_in t u o.type e i ht hi _ len (cap + sg.ext) _ n news hsr hroom2 (by rw [Addr.add_plain, Nat.add_assoc]; exact hst)),
                  ⟨⟨_, ins_self _ _, ?_⟩, (Post.move hw hr hA hsg hg hlive hnx hρ (.row e ((len + n) * i.size) i.size true (newFz fz off (len * i.size)) d' tr') ⟨sg.blk, sg.base + off, cap + sg.ext - (len + n)⟩ _ (Nat.le_of_eq (setRow_size _ _ _).symm) (.inl rfl) (fun b _ hb' => setRow_other _ _ _ _ hb') ?_ rfl rfl rfl _ _ _).more (fun j hj => by rw [hj]; exact Nat.min_le_right _ _),
                    Nat.le_trans (Nat.min_le_left _ _) (Nat.le_trans hrm2 hrm), Nat.min_le_left _ _, rfl⟩⟩
                · show Value.slice (some ⟨sg.blk, sg.base + (id, off).2, none⟩) (len + n) (cap + sg.ext) = .slice (some ⟨sg.blk, sg.base + off + 0, none⟩) (len + n) (len + n + (cap + sg.ext - (len + n)))
                  rw [show len + n + (cap + sg.ext - (len + n)) = cap + sg.ext by omega, Nat.add_zero]
                · rw [setRow_heap w sg.blk c _ e fr hb]
                  refine ⟨_, fr, rfl, RowR.seg hlist hL ?_ ?_ (fun j hj1 hj2 => ?_) (fun hodd => ?_) fun hz => ?_⟩
                  · have e1 : (len + n) * i.size = len * i.size + news.length := by rw [hnl, hmul]
                    rw [e1]
                    simp only [← Nat.add_assoc] at hcut ⊢
                    rw [hcut]
                    exact All2.mono (fun _ _ => CR.mono (ins_ext hρ)) (All2.append holds hh.cells)
                  · simp only [List.size_toArray, List.length_append, List.length_take, List.length_drop, hcl, hrest]
                    rw [hsz'] at hroomc
                    omega
                  · have := hrr.free (off + j) (by
                      rcases newFz_half hj1 with h0 | h0 <;> omega) (by rw [hsz']; omega)
                    rw [← Nat.add_assoc] at this; exact this
                  · obtain ⟨h1, h2, h3⟩ := newFz_odd hodd
                    obtain ⟨h4, h5⟩ := hrr.plain h2
                    refine ⟨by rw [h4, h1], h5.imp (fun q => q) fun h5 => ?_⟩
                    rcases h3 with ⟨h3, h6⟩ | h3 <;> omega
                  · have := hrr.high (newFz_zero hz)
                    simp only [List.size_toArray, List.length_append, List.length_take, List.length_drop, hcl]
                    refine this.imp (fun q => q) fun q => ?_
                    rw [hsz'] at hroomc
                    omega
              · -- it had not
                obtain ⟨r, hrun⟩ := grow (by omega)
                have hp := Post.move (w := w.drew) hw hr.drew hA hsg hg hlive hnx hρ (.row e ((len + n) * i.size) i.size true (newFz fz off (len * i.size)) d' tr') ⟨w.heap.size, 0, r⟩ (w.drew.alloc (.cells (((c.toList.drop (sg.base + off)).take (len * i.size) ++ news).toArray ++ Builtin.zeroCells z.cells r) e)) (by rw [World.size_alloc]; exact Nat.le_succ _) (.inr ⟨Nat.le_refl _, by rw [World.size_alloc]; exact Nat.lt_succ_self _⟩)
                  (fun b hb' _ => by simp only [World.alloc, Array.getElem?_push]; rw [if_neg (Nat.ne_of_lt hb')]) (by
                    have : (w.drew.alloc (.cells (((c.toList.drop (sg.base + off)).take (len * i.size) ++ news).toArray ++ Builtin.zeroCells z.cells r) e)).heap[w.heap.size]? = some (.cells (((c.toList.drop (sg.base + off)).take (len * i.size) ++ news).toArray ++ Builtin.zeroCells z.cells r) e) := by
                      show (w.heap.push _)[w.heap.size]? = _
                      exact Array.getElem?_push_size
                    rw [this]
                    exact newrow r _ (ins_ext hρ)) rfl rfl rfl (min rm2 id) (min m.wm id) m.dfs
                exact ⟨_, _, _, exec hrun, ⟨⟨_, ins_self _ _, rfl⟩, hp.drew_l.more (fun j hj => by rw [hj]; exact Nat.min_le_right _ _), Nat.le_trans (Nat.min_le_left _ _) (Nat.le_trans hrm2 hrm), Nat.min_le_left _ _, rfl⟩⟩
        · cases h
    · rename_i id off len cap hxe
      rw [hxe] at hxv
      obtain ⟨sg, hsg, hxv⟩ := hxv
      rw [iff_eq] at h
      split at h
      · rename_i hn
        have hn : n = 0 := Nat.eq_of_beq_eq_true hn
        rw [iff_ble] at h
        split at h
        · rename_i hlc
          cases h
          obtain ⟨news, hh, hsr⟩ := src (Nat.le_refl _)
          have hnews : news = [] := List.length_eq_zero_iff.1 (by rw [hsr.newsLen, hn, Nat.zero_mul])
          rw [hn, hnews] at hsr
          refine ⟨_, w, ρ, exec ?_, Done.looked hw hr hrm ⟨sg, hsg, rfl⟩⟩
          rw [hxv]
          exact run_append_in t u o.type e i ht hi _ len cap _ 0 [] hsr (by omega) rfl
        · cases h
      · rename_i hn
        rw [num_eq, iff_ble] at h
        split at h
        · rename_i hneed
          have hneed : len + n ≤ 1000000 := hneed
          obtain ⟨rm2, hrm2, hid, h⟩ := look_ok h
          have hrm2 : rm2 ≤ rm := hrm2
          unfold appendShut at h
          split at h
          · rename_i el0 n0 sz0 opn0 fz0 d0 t0 hob
            rw [iff_ble] at h
            split at h
            · cases h
            · rename_i hroom
              have hroom : cap < len + n := Nat.lt_of_not_le hroom
              obtain ⟨n', sz, opn, fz, d, tr, d', tr', m2, hob', hcap, hlc, hos, hgrown, hkill, hnx, rfl, hm'⟩ := appendNew_ok h hs1
              obtain ⟨rfl, rfl, rfl, rfl, rfl, rfl, hdt⟩ : el0 = e ∧ n0 = n' ∧ sz0 = sz ∧ false = opn ∧ fz0 = fz ∧ d0 = d ∧ HEq t0 tr := by
                injection hob' with a1 a2 a3 a4 a5 a6 a7
                exact ⟨a1, a2, a3, a4, a5, a6, a7⟩
              obtain rfl := eq_of_heq hdt
              rcases hkill with ⟨_, rfl⟩ | ⟨ho, _⟩
              · have hob : obj m.H id = .row el0 n0 sz0 opn0 fz0 d0 t0 := hob
                have hle2 : m'.rm ≤ rm2 := by rw [hm']; exact Nat.le_refl _
                obtain ⟨news, hh, hsr⟩ := src (Nat.le_trans hle2 hrm2)
                have hat := hr.rows _ _ hsg (hid.imp (fun h => hin id (.inl (Nat.le_trans hle2 h))) fun h => h)
                rw [hob] at hat
                obtain ⟨c, fr, hb, hrr⟩ := hat
                have hll : l.length = n * i.size := hh.len
                have hnl : news.length = l.length := hh.cells.length.symm
                have hmul : (len + n) * i.size = len * i.size + l.length := by rw [hll]; exact Nat.add_mul _ _ _
                have hcm : len * i.size ≤ cap * i.size := Nat.mul_le_mul_right _ hlc
                have hleo : off + len * i.size ≤ n0 := by omega
                have hsz := hrr.size
                have hρ := hf.one (by rw [hm'])
                have hnx : m.nx < capN hd := hnx
                have hlist := hgrown.list hmul hrr.row hleo
                have hL : (oldL sz0 d0 t0 off (len * i.size) ++ l).length = (len + n) * i.size := by rw [List.length_append, (oldL_ok sz0 d0 t0 off _).len, hmul]
                have holds : All2 (CR ρ) (oldL sz0 d0 t0 off (len * i.size)) ((c.toList.drop (sg.base + off)).take (len * i.size)) := cells_rel hrr hleo (oldL_ok _ _ _ _ _)
                have hol : ((c.toList.drop (sg.base + off)).take (len * i.size)).length = len * i.size := by rw [← holds.length, (oldL_ok sz0 d0 t0 off _).len]
                obtain ⟨r, hrun⟩ : ∃ r, (Builtin.append_ #[t, u] o.type #[a.eval x, a.eval y]).run P w = .ok (.slice (some ⟨w.heap.size, 0, none⟩) (len + n) (len + n + r)) (w.drew.alloc (.cells (((c.toList.drop (sg.base + off)).take (len * i.size) ++ news).toArray ++ Builtin.zeroCells z.cells r) el0)) := by
                  obtain ⟨f1, f2⟩ := fits (len + n) cap hroom hneed
                  have hold : (Builtin.firstCells i.size len (.slice (some ⟨sg.blk, sg.base + off, none⟩) len cap)).run P w.drew = .ok ((c.toList.drop (sg.base + off)).take (len * i.size)).toArray w.drew :=
                    run_loadRow (P := P) (w := w.drew) hb (by omega)
                  have hrun := run_append_grow_src w t u o.type el0 i z ht hi hz _ len cap _ hold (a.eval y) n news hsr hroom f1 f2
                  have hge := grownCap_ge w (len + n) cap el0
                  refine ⟨grownCap w (len + n) cap el0 - (len + n), ?_⟩
                  rw [show len + n + (grownCap w (len + n) cap el0 - (len + n)) = grownCap w (len + n) cap el0 by omega]
                  have hxv : a.eval x = .slice (some ⟨sg.blk, sg.base + off, none⟩) len cap := hxv
                  rw [hxv]; exact hrun
                have newrow : ∀ (r : Nat) (ρ' : Rho), Ext ρ ρ' → OR ρ' ⟨w.heap.size, 0, r⟩ (.row el0 ((len + n) * i.size) i.size true (newFz fz0 off (len * i.size)) d' tr') (some (.cells (((c.toList.drop (sg.base + off)).take (len * i.size) ++ news).toArray ++ Builtin.zeroCells z.cells r) el0)) := fun r ρ' hext => by
                  refine ⟨_, _, rfl, RowR.seg hlist hL ?_ ?_ (fun i _ _ => by simp) (fun _ => ⟨rfl, .inl rfl⟩) fun _ => .inl rfl⟩
                  · rw [List.drop_zero]
                    simp only [Array.toList_append]
                    rw [List.take_left' (by rw [List.length_append, hol, hnl, hmul])]
                    exact All2.mono (fun _ _ => CR.mono hext) (All2.append holds hh.cells)
                  · simp only [Array.size_append, List.size_toArray, List.length_append, hol, size_zeroCells, hnl, hzs]
                    omega
                subst hm'
                exact ⟨_, _, _, exec hrun, ⟨⟨_, ins_self _ _, rfl⟩, (Post.alloc hw hr.drew hnx hρ _ _ r (newrow r _ (ins_ext hρ)) _ _ _).drew_l, Nat.le_trans hrm2 hrm, Nat.le_refl _, rfl⟩⟩
              · cases ho
          · cases h
        · cases h
    · rename_i hxe
      rw [hxe] at hxv
      obtain ⟨ad, hxv⟩ := hxv
      have hxv : a.eval x = .slice (some ad) 0 0 := hxv
      rw [iff_eq] at h
      split at h
      · rename_i hn
        have hn : n = 0 := Nat.eq_of_beq_eq_true hn
        cases h
        obtain ⟨news, hh, hsr⟩ := src (Nat.le_refl _)
        have hnews : news = [] := List.length_eq_zero_iff.1 (by rw [hsr.newsLen, hn, Nat.zero_mul])
        rw [hn, hnews] at hsr
        refine ⟨_, w, ρ, exec ?_, Done.looked hw hr hrm ⟨ad, rfl⟩⟩
        rw [hxv]
        exact run_append_in t u o.type e i ht hi _ 0 0 _ 0 [] hsr (by omega) rfl
      · rename_i hn
        have hn : n ≠ 0 := fun e => hn (by rw [e]; rfl)
        unfold appendNil at h
        rw [iff_eq] at h
        split at h
        · rename_i hcap
          simp only [Bool.and_eq_true, ble_iff] at hcap
          simp only [num_eq] at h
          rcases pieces_ok i.size l (RO.fail [152]) (fun ps => bld topT (lev n) ps fun t _ => fresh (.row e l.length i.size true 1 (lev n) t) ⟨m.H, m.nx, rm, m.wm, m.dfs⟩ (.fail [152]) (okSlc n n)) with h2 | ⟨ps, h2, hps⟩
          · rw [h2] at h; cases h
          · rw [h2] at h
            obtain ⟨tr, h3, h4⟩ := bld_ok topT (lev n) ps (fun t _ => fresh (.row e l.length i.size true 1 (lev n) t) ⟨m.H, m.nx, rm, m.wm, m.dfs⟩ (.fail [152]) (okSlc n n))
            rw [h3] at h
            rcases fresh_ok h with h | ⟨hnx, h⟩
            · cases h
            · obtain ⟨rfl, rfl⟩ := okSlc_eq h
              have hρ := hf.one rfl
              obtain ⟨news, hh, hsr⟩ := src (Nat.le_refl _)
              obtain ⟨f1, f2⟩ := fits n 0 (by omega) hcap.1
              have hrun := run_append_grow_src w t u o.type e i z ht hi hz (some ad) 0 0 [] (by show (loadCells ad (0 * i.size)).run P w.drew = _; rw [Nat.zero_mul]; rfl) (a.eval y) n news hsr (by omega) (by rw [Nat.zero_add]; exact f1) (by rw [Nat.zero_add]; exact f2)
              rw [Nat.zero_add] at hrun
              have hge := grownCap_ge w n 0 e
              have hnl : news.length = l.length := hh.cells.length.symm
              have hpl : ps.length = n := by
                have := hps.len
                rw [hh.len] at this
                exact Nat.mul_right_cancel hs1 this
              refine ⟨_, _, _, exec (by rw [hxv]; exact hrun), ⟨?_, (Post.alloc hw hr.drew hnx hρ _ _ (grownCap w n 0 e - n) ?_ _ _ _).drew_l, hrm, Nat.le_refl _, rfl⟩⟩
              · refine ⟨_, ins_self _ _, ?_⟩
                show Value.slice (some ⟨w.heap.size, 0, none⟩) n (grownCap w n 0 e) = .slice (some ⟨w.heap.size, 0, none⟩) n (n + (grownCap w n 0 e - n))
                rw [show n + (grownCap w n 0 e - n) = grownCap w n 0 e by omega]
              · refine ⟨_, _, rfl, RowR.seg (Row.of_pieces hps (by rw [hpl]; exact lev_ok _ hcap.2) h4) rfl ?_ ?_ (fun i _ _ => by simp) (fun _ => ⟨rfl, .inl rfl⟩) fun _ => .inl rfl⟩
                · rw [List.drop_zero, List.nil_append]
                  simp only [Array.toList_append]
                  rw [List.take_left' (by simp [hnl])]
                  exact All2.mono (fun _ _ => CR.mono (ins_ext hρ)) hh.cells
                · simp only [List.nil_append, Array.size_append, List.size_toArray, size_zeroCells, hnl, hzs]
                  omega
        · cases h
    · cases h
  · exact OpOK.no

theorem appendD_ok {o : Oper} {c : Call} {x y : Operand} (ho : o.op = .call c) (hc : c.callee = .builtin .append) (ha : c.args.toList = [x, y]) {D : Nat} : OpOK P o (appendD P c.argTypes x y (D := D)) := by
  unfold appendD
  split
  · rename_i t u h0 h1
    split
    · rename_i e e' ht hu
      unfold appendE
      split
      · rename_i i hi
        exact appendL_ok ho hc ha h0 h1 ht (.inl ⟨_, hu⟩) hi
      · exact OpOK.no
    · rename_i e ht hu
      unfold appendE
      split
      · rename_i i hi
        exact appendL_ok ho hc ha h0 h1 ht (.inr hu) hi
      · exact OpOK.no
    · exact OpOK.no
  · exact OpOK.no

/-! ### copy -/

theorem exec_copy {o : Oper} {c : Call} {x y : Operand} (ho : o.op = .call c) (hc : c.callee = .builtin .copy) (ha : c.args.toList = [x, y]) (e : Operand → Value) {z : Value} {w w' : World}
    (h : (Builtin.copy_ c.argTypes o.type #[e x, e y]).run P w = .ok z w') : (execOp e o).run P w = .ok (.value z) w' := by
  have hargs : c.args = #[x, y] := Array.toList_inj.1 (by rw [ha])
  rw [execBuiltin ho hc, hargs]
  simp only [builtin, Sem.run_bind, List.map_toArray, List.map_cons, List.map_nil, h, Result.andThen_ok, Sem.run_pure]

theorem copyL_ok {o : Oper} {c : Call} {t e : TypeId} {x y : Operand} (ho : o.op = .call c) (hc : c.callee = .builtin .copy) (ha : c.args.toList = [x, y]) (h0 : c.argTypes[0]? = some t) (ht : P.underlying t = some (.slice e)) {D : Nat} : OpOK P o (copyL P e x y (D := D)) := by
  unfold copyL
  split
  · rename_i s hS
    intro cx ev m v m' h B0 A N ρ a w hw hin hr he hf
    have h : srcCells P (.fail [162]) (s + 1) ((evO P y).f ev) m (fun n l m => copyTo P (s + 1) ((evO P x).f ev) n l m) = .ok v m' := h
    obtain ⟨n, l, rm, hrm, h, hsrc⟩ := srcCells_ok h
    have hxv := he.eval hr.glob x
    have hyv := he.eval hr.glob y
    have src : m'.rm ≤ rm → ∃ news, Held P ρ w (s + 1) n l (a.eval y) news := fun hle =>
      hsrc A B0 ρ w _ hr (fun id hid => hin id (.inl (Nat.le_trans hle hid))) hyv
    unfold copyTo at h
    split at h
    · rename_i hxe
      rw [hxe] at hxv
      have hxv : a.eval x = .slice none 0 0 := hxv
      obtain ⟨rfl, rfl⟩ := okN_eq h
      obtain ⟨news, hh⟩ := src (Nat.le_refl _)
      refine ⟨_, w, ρ, .inl (exec_copy ho hc ha a.eval (z := .int .i64 (Int.ofNat 0)) ?_), Done.looked hw hr hrm rfl⟩
      have hfirst := hh.first 0 w (Nat.zero_le _) rfl
      rw [hxv]
      simp [Builtin.copy_, h0, run_underlying ht, hh.lenOf, run_sizeT hS, hfirst, goInt]
    · rename_i id off len cap hxe
      rw [hxe] at hxv
      obtain ⟨sg, hsg, hxv⟩ := hxv
      have hxv : a.eval x = .slice (some ⟨sg.blk, sg.base + off, none⟩) len (cap + sg.ext) := hxv
      have hmin : ∀ (k : Nat → RO), minK n len k = k (min n len) := fun k => by
        unfold minK
        rw [iff_ble, Nat.min_def]
        split <;> rfl
      rw [hmin, num_eq, takeL_eq] at h
      obtain ⟨rm2, hrm2, hid, h⟩ := look_ok h
      have hrm2 : rm2 ≤ rm := hrm2
      unfold copyDone at h
      split at h
      · rename_i v1 m1 h1
        obtain ⟨rfl, rfl⟩ := okN_eq h
        obtain ⟨el, n', sz, opn, fz, d, tr, tr', hob, hle, hfz, hs, hg, _, hv, hm, hrow⟩ := storeRow_ok h1
        have hob : obj m.H id = .row el n' sz opn fz d tr := hob
        subst hm
        have hA := hin id (.inl (Nat.min_le_right _ _))
        obtain ⟨news, hh⟩ := src (Nat.le_trans (Nat.min_le_left _ _) hrm2)
        have hat := hr.rows _ _ hsg (.inl hA)
        rw [hob] at hat
        obtain ⟨cs, fr, hb, hrr⟩ := hat
        have hcells : All2 (CR ρ) (l.take (Nat.mul (min n len) (s + 1))) (news.take (Nat.mul (min n len) (s + 1))) := All2.take _ hh.cells
        have hle : off + Nat.mul (min n len) (s + 1) ≤ n' := hle
        have hst := run_stored (P := P) hb hrr hcells (off := off) (by rw [hs]; have := Nat.le_add_right n' (sg.ext * sz); omega) hfz
        refine ⟨_, _, ρ, .inl (exec_copy ho hc ha a.eval (z := .int .i64 (Int.ofNat (min n len))) ?_), ⟨rfl, (Post.stored hw hr hA hsg hg hob hb hrr hcells (by rw [hs]; exact hle) (hrow _ hrr.row) _ _ _).more (fun j hj => by rw [hj]; exact Nat.min_le_right _ _), Nat.le_trans (Nat.min_le_left _ _) (Nat.le_trans hrm2 hrm), Nat.min_le_left _ _, rfl⟩⟩
        have hfirst := hh.first (min n len) w (Nat.min_le_left _ _) rfl
        have hfirst : (Builtin.firstCells (s + 1) (Nat.min n len) (a.eval y)).run P w = .ok (news.take (Nat.mul (min n len) (s + 1))).toArray w := hfirst
        rw [hxv]
        simp only [Builtin.copy_, h0, Sem.run_bind, run_underlying ht, Result.andThen_ok, List.getElem?_toArray, List.getElem?_cons_zero, List.getElem?_cons_succ, hh.lenOf, run_sizeT hS, hfirst, hst, Sem.run_pure]
        rfl
      · cases h
    · cases h
  · exact OpOK.no

theorem copyD_ok {o : Oper} {c : Call} {x y : Operand} (ho : o.op = .call c) (hc : c.callee = .builtin .copy) (ha : c.args.toList = [x, y]) {D : Nat} : OpOK P o (copyD P c.argTypes x y (D := D)) := by
  unfold copyD
  split
  · rename_i t h0
    split
    · rename_i e ht
      exact copyL_ok ho hc ha h0 ht
    · exact OpOK.no
  · exact OpOK.no

theorem dataPtr_ok {o : Oper} {c : Call} {x : Operand} (ho : o.op = .call c) (hc : c.callee = .builtin .unsafeSliceData) (ha : c.args.toList = [x]) {D : Nat} : OpOK P o (⟨fun _ e m => dataPtr ((evO P x).f e) m⟩ : OpF D) := by
  have hargs : c.args = #[x] := Array.toList_inj.1 (by rw [ha])
  have run : ∀ (a : Act) (y : Value) (w : World), (Builtin.unsafeSliceData_ c.argTypes o.type #[a.eval x]).run P w = .ok y w → (execOp a.eval o).run P w = .ok (.value y) w := fun a y w h => by
    rw [execBuiltin ho hc, hargs]
    simp only [builtin, Sem.run_bind, List.map_toArray, List.map_cons, List.map_nil, h, Result.andThen_ok, Sem.run_pure]
  refine OpOK.val fun cx e m v m' h => ?_
  have h : dataPtr ((evO P x).f e) m = .ok v m' := h
  unfold dataPtr at h
  split at h
  · rename_i hs
    cases h
    refine ⟨rfl, fun ρ a w hx => ⟨.pointer none, run a _ w ?_, rfl⟩⟩
    have := hx x
    rw [hs] at this
    have hv : a.eval x = .slice none 0 0 := this
    rw [hv]
    rfl
  · rename_i id off ln cap hs
    rw [iff_ble] at h
    split at h
    · rename_i hcap
      cases h
      refine ⟨rfl, fun ρ a w hx => ?_⟩
      have := hx x
      rw [hs] at this
      obtain ⟨sg, hsg, hv⟩ := this
      refine ⟨.pointer (some ⟨sg.blk, sg.base + off, none⟩), run a _ w ?_, ⟨sg, hsg, rfl⟩⟩
      rw [hv]
      exact Lib.run_unsafeSliceData_row w _ _ _ _ _ (by omega)
    · cases h
  · cases h

theorem freeze_heap (w : World) {b n : Nat} {cs : Array Value} {el : TypeId} {fr : Nat × Nat} (hb : w.heap[b]? = some (.cells cs el fr)) (hn : n ≠ 0) :
    (w.freeze ⟨b, 0, none⟩ n).heap[b]? = some (.cells cs el (if fr.1 == fr.2 then (0, 0 + n) else (min fr.1 0, max fr.2 (0 + n)))) ∧ (w.freeze ⟨b, 0, none⟩ n).heap.size = w.heap.size ∧
      (∀ b', b' ≠ b → (w.freeze ⟨b, 0, none⟩ n).heap[b']? = w.heap[b']?) ∧ (w.freeze ⟨b, 0, none⟩ n).tape = w.tape ∧ (w.freeze ⟨b, 0, none⟩ n).os = w.os ∧ (w.freeze ⟨b, 0, none⟩ n).output = w.output := by
  unfold World.freeze
  rw [if_neg hn]
  refine ⟨?_, by simp, fun b' hb' => ?_, rfl, rfl, rfl⟩
  · simp only [Array.getElem?_modify]
    rw [if_pos trivial, hb]
    rfl
  · simp only [Array.getElem?_modify]
    rw [if_neg (fun e => hb' e.symm)]

theorem dataText_ok {o : Oper} {c : Call} {x y : Operand} (ho : o.op = .call c) (hc : c.callee = .builtin .unsafeString) (ha : c.args.toList = [x, y]) {D : Nat} : OpOK P o (dataTextD P c.argTypes x y (D := D)) := by
  have hargs : c.args = #[x, y] := Array.toList_inj.1 (by rw [ha])
  have run : ∀ (a : Act) (z : Value) (w w' : World), (Builtin.unsafeString_ c.argTypes o.type #[a.eval x, a.eval y]).run P w = .ok z w' → (execOp a.eval o).run P w = .ok (.value z) w' := fun a z w w' h => by
    rw [execBuiltin ho hc, hargs]
    simp only [builtin, Sem.run_bind, List.map_toArray, List.map_cons, List.map_nil, h, Result.andThen_ok, Sem.run_pure]
  unfold dataTextD
  split
  · rename_i pt it hts
    have hat : c.argTypes = #[pt, it] := Array.toList_inj.1 (by rw [hts])
    split
    · rename_i el hpt
      rw [iff_eq]
      split
      · rename_i hcel
        have hcel := Nat.eq_of_beq_eq_true hcel
        intro cx e m v m' h B0 A N ρ a w hw hin hr he hf
        have hxv := he.eval hr.glob x
        have hyv := he.eval hr.glob y
        have h : dataText P el ((evO P x).f e) ((evO P y).f e) m = .ok v m' := h
        unfold dataText at h
        split at h
        · rename_i hy
          rw [hy] at hyv
          have hye : a.eval y = .int .i64 0 := hyv
          split at h
          · rename_i hx
            rw [hx] at hxv
            have hxe : a.eval x = .pointer none := hxv
            cases h
            refine ⟨.string .empty, w, ρ, .inl (run a _ w w ?_), Done.pure hw hr ⟨rfl, fun c hc => by cases hc⟩⟩
            rw [hxe, hye, hat]
            exact Lib.run_unsafeString_none w pt it o.type none
          · rename_i id off hx
            rw [hx] at hxv
            obtain ⟨sg, _, hxe⟩ := hxv
            cases h
            refine ⟨.string .empty, w, ρ, .inl (run a _ w w ?_), Done.pure hw hr ⟨rfl, fun c hc => by cases hc⟩⟩
            rw [hxe, hye, hat]
            exact Lib.run_unsafeString_none w pt it o.type _
          · cases h
        · rename_i n hy
          rw [hy] at hyv
          have hye : a.eval y = .int .i64 (Int.ofNat (n + 1)) := hyv
          split at h
          · rename_i id hx
            rw [hx] at hxv
            obtain ⟨sg, hsg, hxe⟩ := hxv
            rw [iff_ble] at h
            split at h
            · rename_i hn6
              obtain ⟨rm, hrm, hid, h⟩ := look_ok h
              unfold dataStr at h
              split at h
              · rename_i el' nn sz opn fz d tr hob
                rw [iff_eq] at h
                split at h
                · rename_i hcond
                  simp only [Bool.and_eq_true, ble_iff] at hcond
                  obtain ⟨⟨⟨hel, hsz1⟩, hodd⟩, hle⟩ := hcond
                  have hel := Nat.eq_of_beq_eq_true hel
                  have hsz1 := Nat.eq_of_beq_eq_true hsz1
                  have hodd : fz % 2 = 1 := Nat.eq_of_beq_eq_true hodd
                  subst hel; subst hsz1
                  have keyA : A id → ∃ x w' ρ', Runs P o a w x w' ∧ Done P B0 A ρ m w v m' x w' ρ' := by
                    intro hAid
                    have hat' := hr.rows _ _ hsg (.inl hAid)
                    rw [hob] at hat'
                    obtain ⟨cs, fr, hb, hrr⟩ := hat'
                    rcases takeCells_ok hrr.row (n + 1) 0 (RO.fail [252]) (fun l => cellBytes (.fail [252]) l fun s => forceStr s fun s => num (Nat.succ (Nat.mul 2 (Nat.max (Nat.div fz 2) (n + 1)))) fun fz => turn P id (.row el' nn 1 opn fz d tr) ⟨m.H, m.nx, rm, m.wm, m.dfs⟩ (.fail [252]) fun m => .ok (.c (.str s)) m) (by omega) with h1 | ⟨l, h1, hl⟩
                    · rw [h1] at h; cases h
                    · rw [h1] at h
                      rcases cellBytes_ok (RO.fail [252]) l (fun s => forceStr s fun s => num (Nat.succ (Nat.mul 2 (Nat.max (Nat.div fz 2) (n + 1)))) fun fz => turn P id (.row el' nn 1 opn fz d tr) ⟨m.H, m.nx, rm, m.wm, m.dfs⟩ (.fail [252]) fun m => .ok (.c (.str s)) m) with h2 | ⟨s, h2, h3, h4⟩
                      · rw [h2] at h; cases h
                      · rw [h2, forceStr_eq, num_eq] at h
                        rcases turn_ok' h with h5 | ⟨hg, hidx, h5⟩
                        · cases h5
                        · cases h5
                          have hlen : s.length = n + 1 := by
                            have := hl.len
                            rw [h3] at this
                            simpa using this
                          have hbase := (hrr.plain hodd).1
                          have hxe : a.eval x = .pointer (some ⟨sg.blk, 0, none⟩) := by rw [hxe, hbase]; rfl
                          have hcsz := hrr.size
                          have hcell : ∀ (j : Nat) (q : UInt8), (s.map UInt8.ofNat)[j]? = some q → w.cell? ((⟨sg.blk, 0, none⟩ : Addr).add j) = some (.int .u8 q.toNat) := by
                            intro j q hq
                            rw [List.getElem?_map] at hq
                            cases hsj : s[j]? with
                            | none => rw [hsj] at hq; cases hq
                            | some z =>
                              rw [hsj] at hq
                              cases hq
                              have hj : j < n + 1 := by
                                have := (List.getElem?_eq_some_iff.1 hsj).1
                                omega
                              obtain ⟨b, hb2, hcr⟩ := hrr.cell j (by omega)
                              have hc2 := hl.cell j hj
                              rw [Nat.zero_add] at hc2
                              rw [← hc2, h3, List.getD_eq_getElem?_getD, List.getElem?_map, hsj] at hcr
                              have hcr : b = .int .u8 (Int.ofNat z) := hcr
                              rw [Addr.add_plain, Nat.zero_add, cell_at hb]
                              rw [hbase, Nat.zero_add] at hb2
                              rw [hb2, hcr, UInt8_back (h4 z (List.mem_of_getElem? hsj))]
                              rfl
                          have hrun := Lib.run_unsafeString_row (P := P) w pt it o.type el' hpt hcel sg.blk cs.size (by simp only [World.shape?, hb]) (s.map UInt8.ofNat) (by
                            intro h0
                            have := congrArg List.length h0
                            simp only [List.length_map, List.length_nil] at this
                            omega) (by rw [List.length_map, hlen]; omega) (by rw [List.length_map, hlen]; omega) hcell
                          rw [List.length_map, hlen] at hrun
                          obtain ⟨f1, f2, f3, f4, f5, f6⟩ := freeze_heap w hb (Nat.succ_ne_zero n)
                          have hlive : Live m.H id := fun h => by rw [hob] at h; cases h
                          refine ⟨_, _, ρ, .inl (run a _ w _ (by rw [hxe, hye, hat]; exact hrun)), ⟨⟨rfl, h4⟩, (Post.turn hw hr hAid hsg hg hlive _ _ f2 f3 ?_ f4 f5 f6 _ _ _).more (fun i hi => by rw [hi]; exact Nat.min_le_right _ _), Nat.le_trans (Nat.min_le_left _ _) hrm, Nat.min_le_left _ _, rfl⟩⟩
                          rw [f1]
                          have e1 : Nat.succ (Nat.mul 2 (Nat.max (Nat.div fz 2) (n + 1))) = 2 * max (fz / 2) (n + 1) + 1 := rfl
                          have e2 : (2 * max (fz / 2) (n + 1) + 1) / 2 = max (fz / 2) (n + 1) := by omega
                          rw [e1]
                          have hfr := (hrr.plain hodd).2
                          refine ⟨cs, _, rfl, ⟨hrr.cell, hrr.whole, hrr.lev, hrr.mult, hrr.room, hrr.shut, fun i hi _ => ?_, fun _ => ⟨hbase, .inr ?_⟩, fun h => by omega⟩⟩
                          · rw [e2] at hi
                            rw [Bool.and_eq_false_iff]
                            right
                            rw [hbase]
                            by_cases hq : fr.1 = fr.2
                            · simp only [hq, beq_self_eq_true, if_true, decide_eq_false_iff_not]
                              omega
                            · have : (fr.1 == fr.2) = false := by simpa using hq
                              simp only [this, Bool.false_eq_true, if_false, decide_eq_false_iff_not]
                              rcases hfr with hfr | hfr
                              · exact absurd hfr hq
                              · omega
                          · rw [e2]
                            by_cases hq : fr.1 = fr.2
                            · simp only [hq, beq_self_eq_true, if_true]
                              omega
                            · have : (fr.1 == fr.2) = false := by simpa using hq
                              simp only [this, Bool.false_eq_true, if_false]
                              rcases hfr with hfr | hfr
                              · exact absurd hfr hq
                              · omega
                  refine keyA (hin id (.inl ?_))
                  rcases takeCells_or 1 d tr (n + 1) 0 (RO.fail [252]) (fun l => cellBytes (.fail [252]) l fun s => forceStr s fun s => num (Nat.succ (Nat.mul 2 (Nat.max (Nat.div fz 2) (n + 1)))) fun fz => turn P id (.row el' nn 1 opn fz d tr) ⟨m.H, m.nx, rm, m.wm, m.dfs⟩ (.fail [252]) fun m => .ok (.c (.str s)) m) with h1 | ⟨l, h1⟩
                  · rw [h1] at h; cases h
                  · rw [h1] at h
                    rcases cellBytes_ok (RO.fail [252]) l (fun s => forceStr s fun s => num (Nat.succ (Nat.mul 2 (Nat.max (Nat.div fz 2) (n + 1)))) fun fz => turn P id (.row el' nn 1 opn fz d tr) ⟨m.H, m.nx, rm, m.wm, m.dfs⟩ (.fail [252]) fun m => .ok (.c (.str s)) m) with h2 | ⟨s, h2, h3, h4⟩
                    · rw [h2] at h; cases h
                    · rw [h2, forceStr_eq, num_eq] at h
                      rcases turn_ok' h with h5 | ⟨hg, hidx, h5⟩
                      · cases h5
                      · cases h5
                        exact Nat.min_le_right _ _
                · cases h
              · cases h
            · cases h
          · cases h
        · cases h
      · exact OpOK.no
    · exact OpOK.no
  · exact OpOK.no

theorem capD_ok {o : Oper} {c : Call} {t : TypeId} {x : Operand} (ho : o.op = .call c) (hc : c.callee = .builtin .cap) (ha : c.args.toList = [x]) (ht : c.argTypes[0]? = some t) {D : Nat} : OpOK P o (capD P o t x (D := D)) := by
  have hargs : c.args = #[x] := Array.toList_inj.1 (by rw [ha])
  have hsel : ∀ cs b, o.op ≠ .select cs b := fun cs b h => by rw [ho] at h; cases h
  have run : ∀ (a : Act) (n : Nat) (w : World), (Builtin.cap_ c.argTypes o.type #[a.eval x]).run P w = .ok (goInt n) w → (execOp a.eval o).run P w = .ok (.value (.int .i64 (Int.ofNat n))) w := fun a n w h => by
    rw [execBuiltin ho hc, hargs]
    simp only [builtin, Sem.run_bind, List.map_toArray, List.map_cons, List.map_nil, h, Result.andThen_ok, Sem.run_pure]
    rfl
  unfold capD
  split
  · rename_i el hu
    refine OpOK.val fun cx e m v m' h => ?_
    have h : capA ((evO P x).f e) m = .ok v m' := h
    unfold capA at h
    split at h
    · rename_i hs
      obtain ⟨rfl, rfl⟩ := okN_eq h
      refine ⟨rfl, fun ρ a w hx => ⟨_, run a 0 w ?_, rfl⟩⟩
      have := hx x
      rw [hs] at this
      have hv : a.eval x = .slice none 0 0 := this
      rw [hv]
      simp [Builtin.cap_, ht, run_underlying hu]
    · rename_i id off ln cap hs
      cases h
      refine ⟨rfl, fun ρ a w hx => ?_⟩
      have := hx x
      rw [hs] at this
      obtain ⟨sg, hsg, hv⟩ := this
      refine ⟨_, run a (cap + sg.ext) w ?_, ⟨sg, hsg, rfl⟩⟩
      rw [hv]
      simp [Builtin.cap_, ht, run_underlying hu]
    · rename_i id off ln cap hs
      obtain ⟨rfl, rfl⟩ := okN_eq h
      refine ⟨rfl, fun ρ a w hx => ⟨_, run a cap w ?_, rfl⟩⟩
      have := hx x
      rw [hs] at this
      obtain ⟨sg, hsg, hv⟩ := this
      rw [hv]
      simp [Builtin.cap_, ht, run_underlying hu]
    · cases h
  · exact genOp_ok o hsel

theorem builtinD_ok {o : Oper} {c : Call} {b : Builtin} (ho : o.op = .call c) (hc : c.callee = .builtin b) {D : Nat} : OpOK P o (builtinD P o b c.args c.argTypes (D := D)) := by
  have hsel : ∀ cs b, o.op ≠ .select cs b := fun cs b h => by rw [ho] at h; cases h
  unfold builtinD
  split
  · rename_i x hx
    split
    · rename_i t ht
      exact capD_ok ho hc hx ht
    · exact OpOK.no
  · rename_i x hx
    exact dataPtr_ok ho hc hx
  · rename_i x y hx
    exact dataText_ok ho hc hx
  · rename_i x hx
    split
    · rename_i t ht
      exact lenD_ok ho hc hx ht
    · exact OpOK.no
  · rename_i x y hx
    exact appendD_ok ho hc hx
  · rename_i x y hx
    exact copyD_ok ho hc hx
  all_goals first | exact OpOK.no | exact genOp_ok o hsel

end Go.CE
end WN
