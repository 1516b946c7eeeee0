/- Operations on memory: made, read, written. No program is named. -/
import Derived.Test.YtjaklcmadkpmdaaDoorCeI
noncomputable section
namespace Go.CE
open Go

variable {P : Program} {B0 : Nat} {A W W' : Nat → Prop} {ρ ρ' ρ'' : Rho} {m m' m'' : M} {w w' w'' : World}

/-- A row's cells, when it is made. -/
theorem RowR.new {sz d n : Nat} {t : NT d TV} {l : List CV} {c : Array Value} {x : Nat} {opn : Bool} {fr : Nat × Nat} (hn : l.length = n) (hr : Row sz d n t fun i => l.getD i (.ref .top)) (hv : All2 (CR ρ) l (c.toList.take n))
    (hx : c.size = n + x * sz) (ho : opn = false → x = 0) (hfr : fr = (0, 0) ∨ c.size ≤ fr.1) (blk : Nat) : RowR ρ ⟨blk, 0, x⟩ n sz opn 0 d t c fr := by
  refine ⟨fun i hi => ?_, hr.whole, hr.lev, hr.mult, by show 0 + n + x * sz ≤ c.size; omega, fun h => ⟨ho h, rfl, by rw [hx, ho h, Nat.zero_mul, Nat.add_zero]⟩, fun i _ hi => ?_, fun h => (by simp at h), fun _ => hfr.imp (fun h => by rw [h]) fun h => h⟩
  · obtain ⟨b, hb, hc⟩ := hv.get i (l[i]'(by omega)) (List.getElem?_eq_getElem _)
    rw [List.getElem?_take_of_lt hi, Array.getElem?_toList] at hb
    refine ⟨b, by rw [Nat.zero_add]; exact hb, ?_⟩
    rw [hr.cell i hi, List.getD_eq_getElem?_getD, List.getElem?_eq_getElem (by omega)]
    exact hc
  · have hi : i < n + x * sz := hi
    rcases hfr with rfl | h
    · simp
    · rw [Bool.and_eq_false_iff]
      left
      simp only [decide_eq_false_iff_not, Nat.zero_add]
      omega

theorem rowOf_OR {β : Type} (elem sz : Nat) (cells : List CV) (bad : β) (k : Ob → β) : rowOf elem sz cells bad k = bad ∨
    ∃ ob, rowOf elem sz cells bad k = k ob ∧ ∀ (ρ : Rho) (blk : Nat) (c : Array Value), All2 (CR ρ) cells c.toList → OR ρ ⟨blk, 0, 0⟩ ob (some (.cells c elem)) := by
  rcases rowOf_ok elem sz cells bad k with h | ⟨sz', d, t, h, hr⟩
  · exact .inl h
  · refine .inr ⟨_, h, fun ρ blk c hc => ⟨c, (0, 0), rfl, RowR.new rfl hr ?_ ?_ (fun _ => rfl) (.inl rfl) blk⟩⟩
    · rw [List.take_of_length_le (by rw [hc.length]; exact Nat.le_refl _)]; exact hc
    · rw [Nat.zero_mul, Nat.add_zero, hc.length, Array.length_toList]

/-- Something new is there. -/
theorem Done.fresh (hw : WF P m) (h : Rel P B0 A ρ m.H w) (hnx : m.nx < capN hd) (hρ : ρ m.nx = none) {o : Obj} {ob : Ob} {x : Nat} {v : AV} {val : Value}
    (ho : OR (ins ρ m.nx ⟨w.heap.size, 0, x⟩) ⟨w.heap.size, 0, x⟩ ob (some o)) (hv : AR (ins ρ m.nx ⟨w.heap.size, 0, x⟩) v val) :
    Done P B0 A ρ m w v ⟨updN hd m.nx m.H ob, m.nx + 1, m.rm, m.wm, m.dfs⟩ val (w.alloc o) (ins ρ m.nx ⟨w.heap.size, 0, x⟩) :=
  ⟨hv, Post.alloc hw h hnx hρ o ob x ho _ _ _, Nat.le_refl _, Nat.le_refl _, rfl⟩

theorem Done.drew {v : AV} {x : Value} (h : Done P B0 A ρ m w.drew v m' x w' ρ') : Done P B0 A ρ m w v m' x w' ρ' := ⟨h.val, h.post.drew_l, h.rm, h.wm, h.dfs⟩

theorem Fresh.one (h : Fresh ρ m m') (h1 : m'.nx = m.nx + 1) : ρ m.nx = none := h m.nx (Nat.le_refl _) (by omega)

theorem run_newRow (elem : TypeId) (cells : Array Value) (w : World) : (newRow elem cells).run P w = .ok ⟨w.heap.size, 0, none⟩ (w.alloc (.cells cells elem)) := rfl

theorem okPtr_eq {id : Nat} {v : AV} (h : okPtr id m = .ok v m') : v = .c (.ref (.ptr id 0)) ∧ m' = m := by cases h; exact ⟨rfl, rfl⟩

theorem okSlc_eq {a b id : Nat} {v : AV} (h : okSlc a b id m = .ok v m') : v = .c (.ref (.slc id 0 a b)) ∧ m' = m := by cases h; exact ⟨rfl, rfl⟩

theorem zeroRow_OR (elem : TypeId) (z : List CV) (ρ : Rho) (blk : Nat) (c : Array Value) (hc : All2 (CR ρ) z c.toList) : OR ρ ⟨blk, 0, 0⟩ (zeroRow elem z).ob (some (.cells c elem)) := by
  unfold zeroRow
  rcases rowOf_OR elem z.length z (ObF.mk .dead) (fun ob => ⟨ob⟩) with h | ⟨ob, h, hob⟩
  · rw [h]; trivial
  · rw [h]; exact hob ρ blk c hc

theorem allocD_ok {o : Oper} {t : TypeId} (ho : o.op = .alloc t) {D : Nat} : OpOK P o (allocD P t (D := D)) := by
  unfold allocD
  split
  · rename_i z hz
    intro c e m v m' h B0 A N ρ a w hw _ hr he hf
    have h : fresh (zeroRow t z).ob m (.fail [16]) okPtr = .ok v m' := h
    rcases fresh_ok h with h | ⟨hnx, h⟩
    · cases h
    · obtain ⟨rfl, rfl⟩ := okPtr_eq h
      have hρ := hf.one rfl
      obtain ⟨zv, hzv, hzr⟩ := run_zeroT hz w
      refine ⟨.pointer (some ⟨w.heap.size, 0, none⟩), _, _, .inl ?_, Done.fresh hw hr hnx hρ (o := .cells zv.cells t) (x := 0) (zeroRow_OR t z _ _ _ (hzr _)) ⟨_, ins_self _ _, rfl⟩⟩
      unfold execOp
      rw [ho]
      simp only [Instr.alloc, Sem.run_bind, hzv, Result.andThen_ok, newVar, run_newRow, Sem.run_pure]
  · exact OpOK.no

theorem boxD_ok {o : Oper} {t : TypeId} {x : Operand} (ho : o.op = .box t x) {D : Nat} : OpOK P o (boxD P t x (D := D)) := by
  intro c e m v m' h B0 A N ρ a w hw _ hr he hf
  have hx := he.eval hr.glob x
  have hrun : ∀ y, a.eval x = y → (execOp a.eval o).run P w = .ok (.value (.pointer (some ⟨w.heap.size, 0, none⟩))) (w.alloc (.cells y.cells t)) := fun y hy => by
    unfold execOp
    rw [ho]
    simp only [Instr.box, Sem.run_bind, Result.andThen_ok, newVar, run_newRow, Sem.run_pure, hy]
  have h : boxA t ((evO P x).f e) m = .ok v m' := h
  unfold boxA at h
  split at h
  · rename_i cv hcv
    rw [hcv] at hx
    have hx : CR ρ cv (a.eval x) := hx
    unfold boxC at h
    rcases fresh_ok h with h | ⟨hnx, h⟩
    · cases h
    · obtain ⟨rfl, rfl⟩ := okPtr_eq h
      have hρ := hf.one rfl
      refine ⟨_, _, _, .inl (hrun _ rfl), Done.fresh hw hr hnx hρ (x := 0) ⟨_, _, rfl, ?_⟩ ⟨_, ins_self _ _, rfl⟩⟩
      rw [AR.cells_c hx]
      have hrow : Row 1 0 1 (TV.c cv) fun i => [cv].getD i (.ref .top) := ⟨fun i hi => by
          have : i = 0 := by omega
          subst this; rfl, fun q _ => (rfl : 1 = 1), fun q hq => by simp only [capN]; omega, rfl⟩
      have hall : All2 (CR (ins ρ m.nx ⟨w.heap.size, 0, 0⟩)) [cv] [a.eval x] := ⟨CR.mono (ins_ext hρ) hx, trivial⟩
      exact RowR.new (c := #[a.eval x]) (l := [cv]) rfl hrow hall rfl (fun _ => rfl) (.inl rfl) _
  · rename_i l hl
    rw [hl] at hx
    obtain ⟨vs, hvs, hall⟩ := hx
    unfold boxL at h
    rw [num_eq] at h
    rcases rowOf_OR t l.length l (.fail [15]) (fun ob => fresh ob m (.fail [15]) okPtr) with h1 | ⟨ob, h1, hob⟩
    · rw [h1] at h; cases h
    · rw [h1] at h
      rcases fresh_ok h with h | ⟨hnx, h⟩
      · cases h
      · obtain ⟨rfl, rfl⟩ := okPtr_eq h
        have hρ := hf.one rfl
        refine ⟨_, _, _, .inl (hrun _ hvs), Done.fresh hw hr hnx hρ (x := 0) (hob _ _ _ ?_) ⟨_, ins_self _ _, rfl⟩⟩
        exact All2.mono (fun _ _ => CR.mono (ins_ext hρ)) hall
  · cases h

/-! ### Read -/

/-- What is behind a number that may be looked at. -/
theorem Rel.at (h : Rel P B0 A ρ m.H w) (hin : In A m m') {id : Nat} {s : Seg} (hs : ρ id = some s) (hid : m'.rm ≤ id ∨ id < glb P) : OR ρ s (obj m.H id) w.heap[s.blk]? :=
  h.rows id s hs (hid.imp (fun h => hin id (.inl h)) fun h => h)

theorem Done.looked (hw : WF P m) (h : Rel P B0 A ρ m.H w) {rm : Nat} (hrm : rm ≤ m.rm) {v : AV} {x : Value} (hv : AR ρ v x) : Done P B0 A ρ m w v ⟨m.H, m.nx, rm, m.wm, m.dfs⟩ x w ρ :=
  ⟨hv, (Post.refl hw h).marks rfl rfl rfl rfl, hrm, Nat.le_refl _, rfl⟩

theorem cell_at {c : Array Value} {el : TypeId} {fr : Nat × Nat} {b : Nat} (hb : w.heap[b]? = some (.cells c el fr)) (i : Nat) : w.cell? ⟨b, i, none⟩ = c[i]? := by
  simp [World.cell?, hb]

theorem run_loadRow {c : Array Value} {el : TypeId} {fr : Nat × Nat} {b : Nat} (hb : w.heap[b]? = some (.cells c el fr)) {o k : Nat} (hle : o + k ≤ c.size) :
    (loadCells ⟨b, o, none⟩ k).run P w = .ok ((c.toList.drop o).take k).toArray w := by
  have hlen : ((c.toList.drop o).take k).length = k := by
    rw [List.length_take, List.length_drop, Array.length_toList]; omega
  have := run_loadCells_list (P := P) w ⟨b, o, none⟩ ((c.toList.drop o).take k) (fun j v hj => ?_)
  · rw [hlen] at this; exact this
  · have hjk : j < k := by
      rcases Nat.lt_or_ge j k with h | h
      · exact h
      · rw [List.getElem?_eq_none (by omega)] at hj; cases hj
    rw [List.getElem?_take_of_lt hjk, List.getElem?_drop, Array.getElem?_toList] at hj
    rw [Addr.add_plain, cell_at hb, hj]

theorem RowR.size {s : Seg} {n sz d fz : Nat} {opn : Bool} {t : NT d TV} {c : Array Value} {fr : Nat × Nat} (hr : RowR ρ s n sz opn fz d t c fr) : s.base + n ≤ c.size := by
  have := hr.room
  have : n + s.ext * sz ≥ n := Nat.le_add_right _ _
  omega

theorem cells_rel {s : Seg} {n sz d fz : Nat} {opn : Bool} {t : NT d TV} {c : Array Value} {fr : Nat × Nat} (hr : RowR ρ s n sz opn fz d t c fr) {off k : Nat} (hle : off + k ≤ n) {l : List CV}
    (hl : Cells sz d t off k l) : All2 (CR ρ) l ((c.toList.drop (s.base + off)).take k) := by
  have hsz := hr.size
  have hlen : ((c.toList.drop (s.base + off)).take k).length = k := by
    rw [List.length_take, List.length_drop, Array.length_toList]; omega
  refine All2.of_get (by rw [hl.len, hlen]) fun i a b ha hb' => ?_
  have hi : i < k := by
    rcases Nat.lt_or_ge i k with h | h
    · exact h
    · rw [List.getElem?_eq_none (by rw [hl.len]; exact h)] at ha; cases ha
  have h1 : cellAt sz d t (off + i) = a := by
    rw [← hl.cell i hi, List.getD_eq_getElem?_getD, ha]; rfl
  obtain ⟨y, hy, hc⟩ := hr.cell (off + i) (by omega)
  rw [h1] at hc
  have h2 : b = y := by
    simp only [List.getElem?_take_of_lt hi, List.getElem?_drop, Array.getElem?_toList] at hb'
    rw [← Nat.add_assoc] at hy
    rw [hy] at hb'
    cases hb'; rfl
  rw [h2]; exact hc

/-- Cells of a row, read. -/
theorem run_cells {s : Seg} {n sz d fz : Nat} {opn : Bool} {t : NT d TV} {c : Array Value} {el : TypeId} {fr : Nat × Nat} (hb : w.heap[s.blk]? = some (.cells c el fr)) (hr : RowR ρ s n sz opn fz d t c fr) {off k : Nat} (hle : off + k ≤ n) {l : List CV}
    (hl : Cells sz d t off k l) : ∃ vs : Array Value, (loadCells ⟨s.blk, s.base + off, none⟩ k).run P w = .ok vs w ∧ All2 (CR ρ) l vs.toList :=
  ⟨_, run_loadRow hb (by have := hr.size; omega), cells_rel hr hle hl⟩

theorem RowR.row {s : Seg} {n sz d fz : Nat} {opn : Bool} {t : NT d TV} {c : Array Value} {fr : Nat × Nat} (hr : RowR ρ s n sz opn fz d t c fr) : Row sz d n t (cellAt sz d t) := ⟨fun _ _ => rfl, hr.whole, hr.lev, hr.mult⟩

theorem takeCells_or {β : Type} (sz d : Nat) (t : NT d TV) (s off : Nat) (bad : β) (k : List CV → β) : takeCells sz d t s off bad k = bad ∨ ∃ l, takeCells sz d t s off bad k = k l := by
  unfold takeCells takeAt
  simp only [num_eq, iff_eq]
  split
  · rw [takePs_eq]; exact .inr ⟨_, rfl⟩
  · split
    · unfold pieceCells
      split
      · rw [iff_eq]; split
        · exact .inr ⟨_, rfl⟩
        · exact .inl rfl
      · rw [sub_eq]; split
        · exact .inr ⟨_, rfl⟩
        · exact .inl rfl
    · exact .inl rfl

theorem loadAgg_m {s sz d off : Nat} {t : NT d TV} {v : AV} (h : loadAgg s sz d t off m = .ok v m') : m' = m := by
  unfold loadAgg at h
  rw [iff_eq] at h
  split at h
  · rw [num_eq] at h
    unfold okPiece at h
    split at h <;> cases h <;> rfl
  · rcases takeCells_or sz d t s off (RO.fail [231]) (fun l => .ok (.agg l) m) with h1 | ⟨l, h1⟩ <;> rw [h1] at h <;> cases h
    rfl

theorem loadOne_m {sz d off : Nat} {t : NT d TV} {v : AV} (h : loadOne sz d t off m = .ok v m') : m' = m := by
  unfold loadOne at h
  split at h
  · unfold okBare at h
    split at h <;> cases h; rfl
  · rw [num_eq, num_eq] at h
    unfold okNth at h
    split at h
    · rw [nthC_eq] at h
      split at h <;> cases h; rfl
    · cases h

/-- What a load of so many cells is. -/
theorem loadAgg_ok {sz d n : Nat} {t : NT d TV} (hr : Row sz d n t (cellAt sz d t)) {s off : Nat} (hle : off + s ≤ n) {v : AV} (h : loadAgg s sz d t off m = .ok v m') : m' = m ∧ ∃ l, v = .agg l ∧ Cells sz d t off s l := by
  unfold loadAgg at h
  rw [iff_eq] at h
  split at h
  · rename_i hc
    simp only [Bool.and_eq_true] at hc
    have h1 : s = sz := Nat.eq_of_beq_eq_true hc.1.1
    have h2 : off % sz = 0 := Nat.eq_of_beq_eq_true hc.1.2
    have h3 : 1 ≤ s := ble_iff.1 hc.2
    subst h1
    have hdm : off / s * s + off % s = off := by rw [Nat.mul_comm]; exact Nat.div_add_mod off s
    have hp := allOf_ok (hr.whole (off / s) (by omega))
    rw [num_eq] at h
    have h : okPiece m ((getN d (off / s)).f t) = .ok v m' := h
    have e : ∀ p, okPiece m p = .ok (.agg (allOf p)) m := fun p => by cases p <;> rfl
    rw [e] at h
    cases h
    refine ⟨rfl, _, rfl, hp.1, fun j hj => ?_⟩
    rw [hp.2 j hj, ← cellAt_mul (t := t) (off / s) j hj]
    congr 1; omega
  · rcases takeCells_ok hr s off (RO.fail [231]) (fun l => .ok (.agg l) m) hle with h1 | ⟨l, h1, hl⟩
    · rw [h1] at h; cases h
    · rw [h1] at h; cases h
      exact ⟨rfl, l, rfl, hl⟩

theorem loadOne_ok {sz d n : Nat} {t : NT d TV} (hr : Row sz d n t (cellAt sz d t)) {off : Nat} (hlt : off < n) {v : AV} (h : loadOne sz d t off m = .ok v m') : m' = m ∧ v = .c (cellAt sz d t off) := by
  have hpos := hr.pos (by omega)
  unfold loadOne at h
  split at h
  · unfold okBare at h
    split at h
    · rename_i c hc
      cases h
      refine ⟨rfl, ?_⟩
      unfold cellAt
      rw [Nat.div_one, hc]; rfl
    · cases h
  · rw [num_eq, num_eq] at h
    have h : okNth m (off % sz) ((getN d (off / sz)).f t) = .ok v m' := h
    unfold okNth at h
    split at h
    · rename_i l hl
      rw [nthC_eq] at h
      split at h
      · rename_i c hc
        cases h
        refine ⟨rfl, ?_⟩
        unfold cellAt
        rw [hl]
        simp only [pieceAt, List.getD_eq_getElem?_getD, hc, Option.getD_some]
      · cases h
    · cases h

theorem loadRow_ok {agg : Bool} {s off : Nat} {ob : Ob} {v : AV} (h : loadRow agg s off ob m = .ok v m') : ∃ el n sz opn fz d t, ob = .row el n sz opn fz d t ∧ off + s ≤ n ∧ iff agg (loadAgg s sz d t off m) (loadOne sz d t off m) = .ok v m' := by
  cases ob with
  | row el n sz opn fz d t =>
    have h : iff (Nat.ble (Nat.add off s) n) (iff agg (loadAgg s sz d t off m) (loadOne sz d t off m)) (.fail [19]) = .ok v m' := h
    rw [iff_ble] at h
    split at h
    · rename_i hle; exact ⟨_, _, _, _, _, _, _, rfl, hle, h⟩
    · cases h
  | _ => cases h

theorem loadA_ok {agg : Bool} {s : Nat} {v : AV} {x : AV} (h : loadA P agg s x m = .ok v m') : ∃ id off, x = .c (.ref (.ptr id off)) ∧ look P id m (loadRow agg s off) = .ok v m' := by
  cases x with
  | c c => cases c with
    | ref r => cases r with
      | ptr id off => exact ⟨id, off, rfl, h⟩
      | _ => cases h
    | _ => cases h
  | _ => cases h

/-- A value is read out of memory. -/
theorem run_loadT {agg : Bool} {k : Nat} {ty : TypeId} (hA : isAggT P ty = some agg) (hS : sizeT P ty = some k) (h1 : agg = true ∨ k = 1) {s : Seg} {n sz d fz : Nat} {opn : Bool} {t : NT d TV} {c : Array Value} {el : TypeId} {fr : Nat × Nat}
    (hb : w.heap[s.blk]? = some (.cells c el fr)) (hr : RowR ρ s n sz opn fz d t c fr) {off : Nat} (hle : off + k ≤ n) {v : AV} (h : iff agg (loadAgg k sz d t off m) (loadOne sz d t off m) = .ok v m') :
    m' = m ∧ ∃ x, (loadVar ty ⟨s.blk, s.base + off, none⟩).run P w = .ok x w ∧ AR ρ v x := by
  cases agg with
  | true =>
    obtain ⟨rfl, l, rfl, hl⟩ := loadAgg_ok hr.row hle h
    refine ⟨rfl, ?_⟩
    obtain ⟨vs, hvs, hall⟩ := run_cells (P := P) hb hr hle hl
    refine ⟨.agg vs, ?_, vs, rfl, hall⟩
    simp only [loadVar, Sem.run_bind, run_isAggT hA, Result.andThen_ok, if_true, run_sizeT hS, hvs, Sem.run_pure]
  | false =>
    have hk : k = 1 := by rcases h1 with h1 | h1; cases h1; exact h1
    subst hk
    obtain ⟨rfl, rfl⟩ := loadOne_ok hr.row (by omega) h
    refine ⟨rfl, ?_⟩
    obtain ⟨x, hx, hc⟩ := hr.cell off (by omega)
    refine ⟨x, ?_, hc⟩
    have hcell : w.cell? ⟨s.blk, s.base + off, none⟩ = some x := by rw [cell_at hb]; exact hx
    simp only [loadVar, Sem.run_bind, run_isAggT hA, Result.andThen_ok, Bool.false_eq_true, if_false, run_load, hcell]

/-- A load, and what it looks at. -/
theorem loadD_go {o : Oper} {t : TypeId} {x : Operand} (ho : o.op = .load t x) {D : Nat} {c : Ctx} {e : NT D AV} {v : AV} (h : (loadD P t x (D := D)).f c e m = .ok v m') :
    ∃ id off rm, (evO P x).f e = .c (.ref (.ptr id off)) ∧ rm ≤ m.rm ∧ (rm ≤ id ∨ id < glb P) ∧ (rm = m.rm ∨ rm = id) ∧ m' = ⟨m.H, m.nx, rm, m.wm, m.dfs⟩ ∧
      ∀ (B0 : Nat) (A : Nat → Prop) (N : Nat) (ρ : Rho) (a : Act) (w : World), Rel P B0 A ρ m.H w → ENV ρ N D e a.tmps → (A id ∨ id < glb P) → ∃ y, (execOp a.eval o).run P w = .ok (.value y) w ∧ AR ρ v y := by
  unfold loadD at h
  split at h
  · rename_i agg s hA hS
    rw [iff_eq] at h
    split at h
    · rename_i h1
      have h1 : agg = true ∨ s = 1 := by
        rcases Bool.or_eq_true _ _ ▸ h1 with h | h
        · exact .inl h
        · exact .inr (Nat.eq_of_beq_eq_true h)
      have h : loadA P agg s ((evO P x).f e) m = .ok v m' := h
      obtain ⟨id, off, hx, h⟩ := loadA_ok h
      obtain ⟨rm, hrm, hid, hrm', h⟩ := look_ok' h
      obtain ⟨el, n, sz, opn, fz, d, tr, hob, hle, h⟩ := loadRow_ok h
      have hm : m' = ⟨m.H, m.nx, rm, m.wm, m.dfs⟩ := by
        cases agg with
        | true => exact loadAgg_m h
        | false => exact loadOne_m h
      refine ⟨id, off, rm, hx, hrm, hid, hrm', hm, fun B0 A N ρ a w hr he hA' => ?_⟩
      subst hm
      have hxv := he.eval hr.glob x
      rw [hx] at hxv
      obtain ⟨sg, hsg, hv⟩ := hxv
      have hrow := hr.rows _ _ hsg hA'
      rw [hob] at hrow
      obtain ⟨cs, fr, hb, hrr⟩ := hrow
      obtain ⟨_, y, hy, hay⟩ := run_loadT (P := P) hA hS h1 hb hrr hle h
      refine ⟨y, ?_, hay⟩
      unfold execOp
      rw [ho]
      simp only [Instr.loadAt, hv, Instr.sureAddr, Sem.run_bind, Sem.run_pure, Result.andThen_ok, hy]
    · cases h
  · cases h

theorem loadD_ok {o : Oper} {t : TypeId} {x : Operand} (ho : o.op = .load t x) {D : Nat} : OpOK P o (loadD P t x (D := D)) := by
  intro c e m v m' h B0 A N ρ a w hw hin hr he hf
  obtain ⟨id, off, rm, hx, hrm, hid, _, rfl, hgo⟩ := loadD_go ho h
  obtain ⟨y, hy, hay⟩ := hgo B0 A N ρ a w hr he (hid.imp (fun h => hin id (.inl h)) fun h => h)
  exact ⟨y, w, ρ, .inl hy, Done.looked hw hr hrm hay⟩

/-- A number that an operand holds is one. -/
theorem ptr_cap {N D : Nat} {e : NT D AV} {a : Act} (hr : Rel P B0 A ρ m.H w) (he : ENV ρ N D e a.tmps) {x : Operand} {id off : Nat} (hx : (evO P x).f e = .c (.ref (.ptr id off))) : id < inf := by
  have hxv := he.eval hr.glob x
  rw [hx] at hxv
  obtain ⟨sg, hsg, hv⟩ := hxv
  have := hr.cap _ _ hsg
  have h2 : capN hd ≤ inf := by decide
  exact Nat.lt_of_lt_of_le this h2

theorem loadD_ok1 {o : Oper} {t : TypeId} {x : Operand} (ho : o.op = .load t x) {D : Nat} : OpOK1 P o (loadD P t x (D := D)) := by
  intro c e m v m' hrm0 hwm0 h B0 A N ρ a w hw hin hr he hf
  obtain ⟨id, off, rm, hx, hrm, hid, hrm', rfl, hgo⟩ := loadD_go ho h
  have hlt := ptr_cap hr he hx
  obtain ⟨y, hy, hay⟩ := hgo B0 A N ρ a w hr he (by
    rcases hid with h1 | h1
    · left
      have : rm = id := by rcases hrm' with h2 | h2 <;> omega
      subst this
      rcases Nat.lt_or_ge rm m.nx with h3 | h3
      · exact hin.one h3
      · exact hin.new _ h3
    · exact .inr h1)
  exact ⟨y, w, ρ, .inl hy, hay, (Post.refl hw hr).marks rfl rfl rfl rfl, rfl⟩

/-! ### Written -/

/-- Cells of a row, written. -/
theorem run_storeCells_row (g o : Nat) (t : TypeId) (fz : Nat × Nat) : ∀ (vs : List Value) (i : Nat) (cur : Array Value) (w : World), w.heap[g]? = some (.cells cur t fz) → (∀ j, j < vs.length → (decide (fz.1 ≤ o + i + j) && decide (o + i + j < fz.2)) = false) → o + i + vs.length ≤ cur.size → (∀ v ∈ vs, Cell v) →
    (storeCells ⟨g, o, none⟩ vs i).run P w = .ok () (w.setRow g (cur.toList.take (o + i) ++ vs ++ cur.toList.drop (o + i + vs.length)).toArray)
  | [], i, cur, w, hg, _, _, _ => by
    simp only [storeCells, List.append_nil, List.length_nil, Nat.add_zero, List.take_append_drop, Array.toArray_toList]
    rw [setRow_self w g cur t fz hg]
    rfl
  | v :: rest, i, cur, w, hg, hfz, hl, h1 => by
    have hi : o + i < cur.size := by simp at hl; omega
    have hadd : (⟨g, o, none⟩ : Addr).add i = ⟨g, o + i, none⟩ := Addr.add_plain _ _ _
    have hcell : w.cell? ⟨g, o + i, none⟩ = some cur[o + i] := by simp [World.cell?, hg, hi]
    have hfro : w.frozen? ⟨g, o + i, none⟩ = false := by
      have := hfz 0 (by simp)
      simp only [World.frozen?, hg]
      exact this
    have hst : (store ((⟨g, o, none⟩ : Addr).add i) v).run P w = .ok () (w.setRow g (cur.setIfInBounds (o + i) v)) := by
      rw [hadd, run_store P w _ v _ (h1 v (by simp)), hcell]
      simp [hfro, setCell_eq_setRow w g (o + i) cur t fz v hg]
    have ih := run_storeCells_row g o t fz rest (i + 1) (cur.setIfInBounds (o + i) v) (w.setRow g (cur.setIfInBounds (o + i) v)) (setRow_heap w g cur _ t _ hg)
      (fun j hj => by have := hfz (j + 1) (by simp; omega); rwa [show o + (i + 1) + j = o + i + (j + 1) by omega]) (by simp at hl ⊢; omega) (fun x hx => h1 x (by simp [hx]))
    simp only [storeCells, Sem.run_bind, hst, Result.andThen_ok, ih, setRow_setRow]
    congr 3
    have e := list_seg_step cur.toList (o + i) v rest (by simp at hl ⊢; omega)
    simpa [Array.toList_setIfInBounds, Nat.add_assoc] using e

theorem All2.cells {l : List CV} {vs : List Value} (h : All2 (CR ρ) l vs) : ∀ v ∈ vs, Cell v := by
  intro v hv
  obtain ⟨i, hi⟩ := List.getElem?_of_mem hv
  have hlt : i < l.length := by
    have := (List.getElem?_eq_some_iff.1 hi).1
    rw [h.length]; exact this
  obtain ⟨b, hb, hc⟩ := h.get i l[i] (List.getElem?_eq_getElem hlt)
  rw [hi] at hb; cases hb
  exact hc.cell

/-- A row with cells laid over its own. -/
theorem RowR.laid {s : Seg} {n sz d fz : Nat} {opn : Bool} {t t' : NT d TV} {c : Array Value} {fr : Nat × Nat} (hr : RowR ρ s n sz opn fz d t c fr) {off : Nat} {l : List CV} {vs : List Value} (hv : All2 (CR ρ) l vs) (hle : off + l.length ≤ n)
    (ht : Row sz d n t' fun i => if off ≤ i ∧ i < off + l.length then l.getD (i - off) (.ref .top) else cellAt sz d t i) :
    RowR ρ s n sz opn fz d t' (c.toList.take (s.base + off) ++ vs ++ c.toList.drop (s.base + off + vs.length)).toArray fr := by
  have hroom := hr.room
  have hlen := hv.length
  have hsz : (c.toList.take (s.base + off) ++ vs ++ c.toList.drop (s.base + off + vs.length)).length = c.size := by
    simp only [List.length_append, List.length_take, List.length_drop, Array.length_toList]
    have : n + s.ext * sz ≥ n := Nat.le_add_right _ _
    omega
  refine ⟨fun i hi => ?_, ht.whole, ht.lev, ht.mult, by simp only [List.size_toArray, hsz]; exact hroom, fun h => ⟨(hr.shut h).1, (hr.shut h).2.1, by simp only [List.size_toArray, hsz]; exact (hr.shut h).2.2⟩, hr.free, hr.plain, fun h => by simp only [List.size_toArray, hsz]; exact hr.high h⟩
  rw [ht.cell i hi]
  have hgt : c.toList.length = c.size := Array.length_toList
  have hb : s.base + n ≤ c.size := by
    have : n + s.ext * sz ≥ n := Nat.le_add_right _ _
    omega
  by_cases h : off ≤ i ∧ i < off + l.length
  · rw [if_pos h]
    obtain ⟨b, hb', hc⟩ := hv.get (i - off) (l[i - off]'(by omega)) (List.getElem?_eq_getElem _)
    refine ⟨b, ?_, ?_⟩
    · simp only [List.getElem?_toArray]
      rw [List.append_assoc, List.getElem?_append_right (by rw [List.length_take]; omega), List.length_take, Nat.min_eq_left (by omega), List.getElem?_append_left (by omega), ← hb']
      congr 1; omega
    · rw [List.getD_eq_getElem?_getD, List.getElem?_eq_getElem (by omega)]; exact hc
  · rw [if_neg h]
    obtain ⟨x, hx, hc⟩ := hr.cell i hi
    refine ⟨x, ?_, hc⟩
    rw [← hx]
    simp only [List.getElem?_toArray]
    rw [← Array.getElem?_toList]
    by_cases h2 : i < off
    · rw [List.append_assoc, List.getElem?_append_left (by rw [List.length_take]; omega), List.getElem?_take_of_lt (by omega)]
    · rw [List.getElem?_append_right (by rw [List.length_append, List.length_take]; omega), List.length_append, List.length_take, Nat.min_eq_left (by omega), List.getElem?_drop]
      congr 1; omega

/-- A row is written into. -/
theorem storeRow_ok {id off s : Nat} {l : List CV} {ob : Ob} {v : AV} (h : storeRow P id off s l ob m = .ok v m') :
    ∃ el n sz opn fz d t t', ob = .row el n sz opn fz d t ∧ off + s ≤ n ∧ fz / 2 ≤ off ∧ l.length = s ∧ glb P ≤ id ∧ id < m.nx ∧ v = undefA ∧ m' = ⟨updN hd id m.H (.row el n sz opn fz d t'), m.nx, min m.rm id, min m.wm id, m.dfs⟩ ∧
      ∀ f, Row sz d n t f → Row sz d n t' fun i => if off ≤ i ∧ i < off + l.length then l.getD (i - off) (.ref .top) else f i := by
  unfold storeRow at h
  split at h
  · rename_i el n sz opn fz d t
    rw [iff_eq] at h
    split at h
    · rename_i hc
      simp only [Bool.and_eq_true, ble_iff] at hc
      have hle : off + s ≤ n := hc.1.1
      have hs : l.length = s := Nat.eq_of_beq_eq_true hc.2
      rcases layCells_ok sz d t l s off (RO.fail [235]) (fun t => turn P id (.row el n sz opn fz d t) m (.fail [24]) okU) hs with h1 | ⟨t', h1, hrow⟩
      · rw [h1] at h; cases h
      · rw [h1] at h
        rcases turn_ok' h with h2 | ⟨hg, hidx, h2⟩
        · cases h2
        · have h2 : RO.ok undefA ⟨updN hd id m.H (.row el n sz opn fz d t'), m.nx, min m.rm id, min m.wm id, m.dfs⟩ = .ok v m' := h2
          cases h2
          refine ⟨el, n, sz, opn, fz, d, t, t', rfl, hle, hc.1.2, hs, hg, hidx, rfl, rfl, fun f hf => ?_⟩
          rw [hs]; exact hrow n f hf hle
    · cases h
  · cases h

theorem Post.stored (hw : WF P m) (hr : Rel P B0 A ρ m.H w) {id : Nat} {s : Seg} (hA : A id) (hs : ρ id = some s) (hg : glb P ≤ id) {el n sz fz d : Nat} {opn : Bool} {t t' : NT d TV} {c : Array Value} {fr : Nat × Nat}
    (hob : obj m.H id = .row el n sz opn fz d t) (hb : w.heap[s.blk]? = some (.cells c el fr)) (hrr : RowR ρ s n sz opn fz d t c fr) {off : Nat} {l : List CV} {vs : List Value} (hv : All2 (CR ρ) l vs) (hle : off + l.length ≤ n)
    (ht : Row sz d n t' fun i => if off ≤ i ∧ i < off + l.length then l.getD (i - off) (.ref .top) else cellAt sz d t i) (rm wm : Nat) (dfs : List Nat) :
    Post P B0 A (fun i => i = id) ρ m w ρ ⟨updN hd id m.H (.row el n sz opn fz d t'), m.nx, rm, wm, dfs⟩ (w.setRow s.blk (c.toList.take (s.base + off) ++ vs ++ c.toList.drop (s.base + off + vs.length)).toArray) := by
  refine Post.turn hw hr hA hs hg (fun h => by rw [hob] at h; cases h) _ _ (setRow_size _ _ _) (fun b hb' => setRow_other _ _ _ _ hb') ?_ rfl rfl rfl _ _ _
  rw [setRow_heap w s.blk c _ el fr hb]
  exact ⟨_, fr, rfl, hrr.laid hv hle ht⟩

theorem run_stored {s : Seg} {n sz fz d : Nat} {opn : Bool} {t : NT d TV} {c : Array Value} {el : TypeId} {fr : Nat × Nat} (hb : w.heap[s.blk]? = some (.cells c el fr)) (hrr : RowR ρ s n sz opn fz d t c fr) {off : Nat} {l : List CV} {vs : List Value}
    (hv : All2 (CR ρ) l vs) (hle : off + l.length ≤ n + s.ext * sz) (hfz : fz / 2 ≤ off) : (storeCells ⟨s.blk, s.base + off, none⟩ vs).run P w = .ok () (w.setRow s.blk (c.toList.take (s.base + off) ++ vs ++ c.toList.drop (s.base + off + vs.length)).toArray) := by
  have hlen := hv.length
  have hroom := hrr.room
  exact run_storeCells_row s.blk (s.base + off) el fr vs 0 c w hb (fun j hj => by
    have := hrr.free (off + j) (by omega) (by omega)
    rw [← Nat.add_assoc] at this; exact this) (by omega) hv.cells

theorem storeD_go {o : Oper} {t : TypeId} {x y : Operand} (ho : o.op = .store t x y) {D : Nat} {c : Ctx} {e : NT D AV} {v : AV} (h : (storeD P t x y (D := D)).f c e m = .ok v m') :
    ∃ id off rm ob, (evO P x).f e = .c (.ref (.ptr id off)) ∧ rm ≤ m.rm ∧ (rm ≤ id ∨ id < glb P) ∧ (rm = m.rm ∨ rm = id) ∧ glb P ≤ id ∧ id < m.nx ∧ v = undefA ∧ m' = ⟨updN hd id m.H ob, m.nx, min rm id, min m.wm id, m.dfs⟩ ∧
      ∀ (B0 : Nat) (A : Nat → Prop) (N : Nat) (ρ : Rho) (a : Act) (w : World), WF P m → Rel P B0 A ρ m.H w → ENV ρ N D e a.tmps → A id → ∃ w', (execOp a.eval o).run P w = .ok .skip w' ∧ Post P B0 A (fun i => i = id) ρ m w ρ m' w' := by
  unfold storeD at h
  split at h
  · rename_i s hS
    have h : storeA P s ((evO P x).f e) ((evO P y).f e) m = .ok v m' := h
    unfold storeA at h
    split at h
    · rename_i r hx
      rcases cellsA_ok h with ⟨l, h, hl⟩ | h
      · unfold storeR at h
        split at h
        · rename_i id off _
          obtain ⟨rm, hrm, hid, hrm', h⟩ := look_ok' h
          obtain ⟨el, n, sz, opn, fz, d, tr, tr', hob, hle, hfz, hs, hg, hidx, hv, hm, hrow⟩ := storeRow_ok h
          refine ⟨id, off, rm, _, hx, hrm, hid, hrm', hg, hidx, hv, hm, fun B0 A N ρ a w hw hr he hA => ?_⟩
          have hxv := he.eval hr.glob x
          rw [hx] at hxv
          obtain ⟨sg, hsg, hxa⟩ := hxv
          have hyv := hl ρ _ (he.eval hr.glob y)
          have hat := hr.rows _ _ hsg (.inl hA)
          rw [hob] at hat
          obtain ⟨cs, fr, hb, hrr⟩ := hat
          have hst := run_stored (P := P) hb hrr hyv (by rw [hs]; have := Nat.le_add_right n (sg.ext * sz); omega) hfz
          subst hm
          refine ⟨_, ?_, Post.stored hw hr hA hsg hg hob hb hrr hyv (by rw [hs]; exact hle) (hrow _ hrr.row) _ _ _⟩
          unfold execOp
          rw [ho]
          have hsz : (a.eval y).cells.size = s := by rw [← Array.length_toList, ← hyv.length, hs]
          simp only [Instr.storeAt, hxa, Instr.sureAddr, Sem.run_bind, Sem.run_pure, Result.andThen_ok, storeVar, run_sizeT hS, hsz, ne_eq, not_true_eq_false, if_false, hst]
        · cases h
      · cases h
    · cases h
  · cases h

theorem storeD_ok {o : Oper} {t : TypeId} {x y : Operand} (ho : o.op = .store t x y) {D : Nat} : OpOK P o (storeD P t x y (D := D)) := by
  intro c e m v m' h B0 A N ρ a w hw hin hr he hf
  obtain ⟨id, off, rm, ob, hx, hrm, hid, _, hg, _, rfl, rfl, hgo⟩ := storeD_go ho h
  obtain ⟨w', hy, hp⟩ := hgo B0 A N ρ a w hw hr he (hin id (.inl (Nat.min_le_right _ _)))
  exact ⟨undef, w', ρ, .inr ⟨rfl, hy⟩, AR.undef ρ, hp.more (fun i hi => by rw [hi]; exact Nat.min_le_right _ _), Nat.le_trans (Nat.min_le_left _ _) hrm, Nat.min_le_left _ _, rfl⟩

theorem storeD_ok1 {o : Oper} {t : TypeId} {x y : Operand} (ho : o.op = .store t x y) {D : Nat} : OpOK1 P o (storeD P t x y (D := D)) := by
  intro c e m v m' hrm0 hwm0 h B0 A N ρ a w hw hin hr he hf
  obtain ⟨id, off, rm, ob, hx, hrm, hid, hrm', hg, _, rfl, rfl, hgo⟩ := storeD_go ho h
  have hlt := ptr_cap hr he hx
  have h1 : min rm id = id := by rcases hrm' with h2 | h2 <;> omega
  have h2 : min m.wm id = id := by omega
  have hA : A id := by
    rcases Nat.lt_or_ge id m.nx with h3 | h3
    · have := hin.one
      simp only [h1] at this
      exact this h3
    · exact hin.new _ h3
  obtain ⟨w', hy, hp⟩ := hgo B0 A N ρ a w hw hr he hA
  exact ⟨undef, w', ρ, .inr ⟨rfl, hy⟩, AR.undef ρ, hp.more (fun i hi => by rw [hi]; exact h2.symm), rfl⟩

end Go.CE
