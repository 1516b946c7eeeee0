/- append, copy. No program is named. -/
import Derived.Test.YtjaklcmadkpmdaaDoorCeM
import Derived.Lib.UnsafeStr
import Derived.Deep.AppendSrc
noncomputable section
namespace Go.CE
open Go

variable {P : Program} {B0 : Nat} {A W W' : Nat → Prop} {ρ ρ' ρ'' : Rho} {m m' m'' : M} {w w' w'' : World}

/-! ### What is appended, or copied -/

/-- Elements that a value holds: their cells. -/
structure Held (P : Program) (ρ : Rho) (w : World) (s n : Nat) (l : List CV) (x : Value) (news : List Value) : Prop where
  len : l.length = n * s
  cells : All2 (CR ρ) l news
  lenOf : ∀ w' : World, (Builtin.lenOf x).run P w' = .ok n w'
  first : ∀ (k : Nat) (w' : World), k ≤ n → w'.heap = w.heap → (Builtin.firstCells s k x).run P w' = .ok (news.take (k * s)).toArray w'

theorem Held.src {s n : Nat} {l : List CV} {x : Value} {news : List Value} (h : Held P ρ w s n l x news) {tx : TypeId} (hk : (∃ e', P.underlying tx = some (.slice e')) ∨ P.underlying tx = some .string) : Src P s tx x n news w := by
  have hl : news.length = n * s := by rw [← h.cells.length, h.len]
  have ht : news.take (n * s) = news := List.take_of_length_le (by omega)
  refine ⟨hk, h.lenOf, ?_, ?_, hl, h.cells.cells⟩
  · have := h.first n w (Nat.le_refl _) rfl; rw [ht] at this; exact this
  · have := h.first n w.drew (Nat.le_refl _) rfl; rw [ht] at this; exact this

theorem byteVs_eq (s : List Nat) : Go.byteCells (bytesOf s) = byteVs s := by
  unfold Go.byteCells byteVs bytesOf
  rfl

theorem srcCells_ok {bad : List Nat} {s : Nat} {x : AV} {k : Nat → List CV → M → RO} {v : AV} (h : srcCells P (.fail bad) s x m k = .ok v m') :
    ∃ n l rm, rm ≤ m.rm ∧ k n l ⟨m.H, m.nx, rm, m.wm, m.dfs⟩ = .ok v m' ∧
      ∀ (A : Nat → Prop) (B0 : Nat) (ρ : Rho) (w : World) (xv : Value), Rel P B0 A ρ m.H w → (∀ id, rm ≤ id → A id) → AR ρ x xv → ∃ news, Held P ρ w s n l xv news := by
  unfold srcCells at h
  split at h
  · refine ⟨0, [], m.rm, Nat.le_refl _, h, fun A B0 ρ w xv _ _ hx => ⟨[], by simp, trivial, fun w' => ?_, fun k w' hk _ => ?_⟩⟩
    · have hx : xv = .slice none 0 0 := hx
      rw [hx]; rfl
    · have hx : xv = .slice none 0 0 := hx
      have : k = 0 := by omega
      subst this
      rw [hx]; simp [Builtin.firstCells, Sem.run_pure]
  · refine ⟨0, [], m.rm, Nat.le_refl _, h, fun A B0 ρ w xv _ _ hx => ⟨[], by simp, trivial, fun w' => ?_, fun k w' hk _ => ?_⟩⟩
    · obtain ⟨b, q, hx⟩ := hx
      rw [hx]; rfl
    · obtain ⟨b, q, hx⟩ := hx
      have : k = 0 := by omega
      subst this
      rw [hx]
      show (loadCells b (0 * s)).run P w' = _
      rw [Nat.zero_mul]; rfl
  · rename_i id off len cap
    rw [num_eq] at h
    obtain ⟨rm, hrm, hid, h⟩ := look_ok h
    unfold rowCells at h
    split at h
    · rename_i el n sz opn fz d t hob
      rw [iff_ble] at h
      split at h
      · rename_i hle
        have hle : off + len * s ≤ n := hle
        rcases takeCells_ok' sz d t (Nat.mul len s) off (RO.fail bad) (fun l => k len l ⟨m.H, m.nx, rm, m.wm, m.dfs⟩) with h1 | ⟨l, h1, hl⟩
        · rw [h1] at h; cases h
        · rw [h1] at h
          refine ⟨len, l, rm, hrm, h, fun A B0 ρ w xv hr hA hx => ?_⟩
          obtain ⟨sg, hsg, hx⟩ := hx
          have hat := hr.rows _ _ hsg (hid.imp (fun h => hA id h) fun h => h)
          rw [hob] at hat
          obtain ⟨c, fr, hb, hrr⟩ := hat
          have hcl : Cells sz d t off (len * s) l := hl n _ hrr.row hle
          have hsz := hrr.size
          refine ⟨_, hcl.len, cells_rel hrr hle hcl, fun w' => by rw [hx]; rfl, fun k' w' hk' hw' => ?_⟩
          have hks : k' * s ≤ len * s := Nat.mul_le_mul_right _ hk'
          rw [hx]
          have hb' : w'.heap[sg.blk]? = some (.cells c el fr) := by rw [hw']; exact hb
          have := run_loadRow (P := P) hb' (o := sg.base + off) (k := k' * s) (by omega)
          rw [List.take_take, Nat.min_eq_left hks]
          exact this
      · cases h
    · cases h
  · rename_i id off len cap
    rw [num_eq] at h
    obtain ⟨rm, hrm, hid, h⟩ := look_ok h
    unfold rowCells at h
    split at h
    · rename_i el n sz opn fz d t hob
      rw [iff_ble] at h
      split at h
      · rename_i hle
        have hle : off + len * s ≤ n := hle
        rcases takeCells_ok' sz d t (Nat.mul len s) off (RO.fail bad) (fun l => k len l ⟨m.H, m.nx, rm, m.wm, m.dfs⟩) with h1 | ⟨l, h1, hl⟩
        · rw [h1] at h; cases h
        · rw [h1] at h
          refine ⟨len, l, rm, hrm, h, fun A B0 ρ w xv hr hA hx => ?_⟩
          obtain ⟨sg, hsg, hx⟩ := hx
          have hat := hr.rows _ _ hsg (hid.imp (fun h => hA id h) fun h => h)
          rw [hob] at hat
          obtain ⟨c, fr, hb, hrr⟩ := hat
          have hcl : Cells sz d t off (len * s) l := hl n _ hrr.row hle
          have hsz := hrr.size
          refine ⟨_, hcl.len, cells_rel hrr hle hcl, fun w' => by rw [hx]; rfl, fun k' w' hk' hw' => ?_⟩
          have hks : k' * s ≤ len * s := Nat.mul_le_mul_right _ hk'
          rw [hx]
          have hb' : w'.heap[sg.blk]? = some (.cells c el fr) := by rw [hw']; exact hb
          have := run_loadRow (P := P) hb' (o := sg.base + off) (k := k' * s) (by omega)
          rw [List.take_take, Nat.min_eq_left hks]
          exact this
      · cases h
    · cases h
  · refine ⟨0, [], m.rm, Nat.le_refl _, h, fun A B0 ρ w xv _ _ hx => ⟨[], by simp, trivial, fun w' => ?_, fun k w' hk _ => ?_⟩⟩
    · obtain ⟨b, hx⟩ := hx
      rw [hx]; rfl
    · obtain ⟨b, hx⟩ := hx
      have : k = 0 := by omega
      subst this
      rw [hx]
      show (loadCells b (0 * s)).run P w' = _
      rw [Nat.zero_mul]; rfl
  · rename_i b
    rw [iff_eq] at h
    split at h
    · rename_i hs
      have hs : s = 1 := Nat.eq_of_beq_eq_true hs
      subst hs
      rw [byteCells_eq, num_eq] at h
      refine ⟨b.length, b.map u8, m.rm, Nat.le_refl _, by rw [List.length_map] at h; exact h, fun A B0 ρ w xv _ _ hx => ⟨byteVs b, by simp, bytes_cells ρ b hx.2, fun w' => ?_, fun k w' hk _ => ?_⟩⟩
      · have hx : xv = .string (bytesOf b) := hx.1
        rw [hx]
        show Result.ok (bytesOf b).size w' = _
        rw [bytesOf_size]
      · have hx : xv = .string (bytesOf b) := hx.1
        rw [hx]
        simp only [Builtin.firstCells, Sem.run_pure, Nat.mul_one]
        congr 1
        apply Array.ext'
        simp [byteVs, bytesOf, List.map_take]
    · cases h
  · cases h

/-! ### append -/

theorem append_types {argTypes : Array TypeId} {t u : TypeId} (h0 : argTypes[0]? = some t) (h1 : argTypes[1]? = some u) (ty : TypeId) (args : Array Value) : Builtin.append_ argTypes ty args = Builtin.append_ #[t, u] ty args := by
  unfold Builtin.append_
  rw [h0, h1]
  rfl

theorem run_append_in (t tx ty e : TypeId) (i : TypeInfo) (ht : P.underlying t = some (.slice e)) (hi : P.info? e = some i) (a : Addr) (sLen sCap : Nat) (x : Value) (n : Nat) (news : List Value) (hs : Src P i.size tx x n news w)
    (hroom : sLen + n ≤ sCap) (hst : (storeCells (a.add (sLen * i.size)) news).run P w = .ok () w') :
    (Builtin.append_ #[t, tx] ty #[.slice (some a) sLen sCap, x]).run P w = .ok (.slice (some a) (sLen + n) sCap) w' := by
  rcases hs.kind with ⟨e', hk⟩ | hk <;> simp [Builtin.append_, run_underlying ht, run_underlying hk, sizeOf, typeInfo, hi, hs.len, hroom, hs.cells, hst]

theorem run_append_nothing' (t tx ty e : TypeId) (i : TypeInfo) (ht : P.underlying t = some (.slice e)) (hi : P.info? e = some i) (x : Value) (hs : Src P i.size tx x 0 [] w) :
    (Builtin.append_ #[t, tx] ty #[.slice none 0 0, x]).run P w = .ok (.slice none 0 0) w := by
  rcases hs.kind with ⟨e', hk⟩ | hk <;> simp [Builtin.append_, run_underlying ht, run_underlying hk, sizeOf, typeInfo, hi, hs.len, hs.cells]

/-- What a row is, behind an append that made one. -/
structure Grown (len s need off : Nat) (l : List CV) (d : Nat) (t : NT d TV) (n sz : Nat) (d' : Nat) (t' : NT d' TV) : Prop where
  row : need * s = len * s + l.length → ∀ f, Row sz d n t f → off + len * s ≤ n → Row s d' (need * s) t' fun i => if i < len * s then f (off + i) else l.getD (i - len * s) (.ref .top)

theorem appendOn_ok {elem s need len want fz n : Nat} {d : Nat} {t : NT d TV} {l : List CV} {v : AV} (h : appendOn elem s need len (len * s) want fz d t l m = .ok v m') :
    ∃ d' t', Grown len s need 0 l d t n s d' t' ∧ fresh (.row elem want s true (newFz fz 0 (len * s)) d' t') m (.fail [144]) (okSlc need need) = .ok v m' := by
  unfold appendOn at h
  obtain ⟨d', t1, h1, hcap, hsame⟩ := growT_ok need d t (fun d t => iff (Nat.ble need (capN d)) (pieces s l (.fail [144]) fun ps => layPs d ps t len fun t => num (newFz fz 0 (len * s)) fun fz => fresh (.row elem want s true fz d t) m (.fail [144]) (okSlc need need)) (.fail [145]))
  rw [h1, iff_ble] at h
  split at h
  · rename_i hle
    rcases pieces_ok s l (RO.fail [144]) (fun ps => layPs d' ps t1 len fun t => num (newFz fz 0 (len * s)) fun fz => fresh (.row elem want s true fz d' t) m (.fail [144]) (okSlc need need)) with h2 | ⟨ps, h2, hps⟩
    · rw [h2] at h; cases h
    · rw [h2, layPs_eq, num_eq] at h
      refine ⟨d', _, ⟨fun hneed f hr hn => ?_⟩, h⟩
      have hlev : ∀ q, q * s < len * s → q < capN d := fun q hq => hr.lev q (by omega)
      have hcell : ∀ i, i < len * s → cellAt s d' t1 i = f i := fun i hi => by
        rw [← hr.cell i (by omega)]
        unfold cellAt
        rw [hsame _ (hlev _ (by have := Nat.div_mul_le_self i s; omega))]
      have := lay_row (n0 := len * s) (n := need * s) (q := len) (t := t1) (f := f) hcell
        (fun q hq => by rw [hsame _ (hlev q hq)]; exact hr.whole q (by omega)) (fun q hq => Nat.lt_of_lt_of_le (Nat.lt_of_mul_lt_mul_right hq) hle) (Nat.mul_mod_left _ _) hps (Nat.le_refl _) (by omega) (fun i hi => by omega)
      refine this.ext fun i hi => ?_
      by_cases hlt : i < len * s
      · rw [if_neg (by omega), if_pos hlt, Nat.zero_add]
      · rw [if_pos (by omega), if_neg hlt]
  · cases h

theorem appendCopy_ok {elem s need len want fz off sz n : Nat} {d : Nat} {t : NT d TV} {l : List CV} {v : AV} (h : appendCopy elem s need (len * s) want fz off sz d t l m = .ok v m') (hs : 0 < s) (hcap : need ≤ capN 5) :
    ∃ d' t', Grown len s need off l d t n sz d' t' ∧ fresh (.row elem want s true (newFz fz off (len * s)) d' t') m (.fail [146]) (okSlc need need) = .ok v m' := by
  unfold appendCopy at h
  rcases takeCells_ok' sz d t (len * s) off (RO.fail [146]) (fun old => appC old l fun cs => pieces s cs (.fail [147]) fun ps => num (lev need) fun d => bld topT d ps fun t _ => num (newFz fz off (len * s)) fun fz => fresh (.row elem want s true fz d t) m (.fail [146]) (okSlc need need)) with h1 | ⟨old, h1, hold⟩
  · rw [h1] at h; cases h
  · rw [h1, appC_eq] at h
    rcases pieces_ok s (old ++ l) (RO.fail [147]) (fun ps => num (lev need) fun d => bld topT d ps fun t _ => num (newFz fz off (len * s)) fun fz => fresh (.row elem want s true fz d t) m (.fail [146]) (okSlc need need)) with h2 | ⟨ps, h2, hps⟩
    · rw [h2] at h; cases h
    · rw [h2, num_eq] at h
      obtain ⟨t', h3, h4⟩ := bld_ok topT (lev need) ps (fun t _ => num (newFz fz off (len * s)) fun fz => fresh (.row elem want s true fz (lev need) t) m (.fail [146]) (okSlc need need))
      rw [h3, num_eq] at h
      refine ⟨_, t', ⟨fun hneed f hr hn => ?_⟩, h⟩
      have hc := hold n f hr hn
      have hlen : (old ++ l).length = need * s := by rw [List.length_append, hc.len, hneed]
      have hpl : ps.length = need := by
        have := hps.len
        rw [hlen] at this
        exact Nat.mul_right_cancel hs this
      have hrow := Row.of_pieces hps (by rw [hpl]; exact lev_ok _ hcap) h4
      rw [hlen] at hrow
      refine hrow.ext fun i hi => ?_
      rw [List.getD_eq_getElem?_getD, List.getElem?_append, hc.len]
      by_cases hlt : i < len * s
      · rw [if_pos hlt, if_pos hlt, ← List.getD_eq_getElem?_getD, hc.cell i hlt]
        exact hr.cell _ (by omega)
      · rw [if_neg hlt, if_neg hlt, List.getD_eq_getElem?_getD]

theorem killK_ok {opn : Bool} {id fz lim : Nat} {k : M → RO} {v : AV} (h : killK P opn id fz lim m k = .ok v m') :
    (opn = false ∧ k m = .ok v m') ∨ (opn = true ∧ fz / 2 ≤ lim ∧ glb P ≤ id ∧ k ⟨updN hd id m.H .dead, m.nx, min m.rm id, min m.wm id, m.dfs⟩ = .ok v m') := by
  unfold killK at h
  split at h
  · rw [iff_ble] at h
    split at h
    · rename_i hle
      rcases turn_ok h with h | ⟨hg, h⟩
      · cases h
      · exact .inr ⟨rfl, hle, hg, h⟩
    · cases h
  · exact .inl ⟨rfl, h⟩

theorem appendNew_ok {elem id off cap s need len : Nat} {l : List CV} {ob : Ob} {v : AV} (h : appendNew P elem id off cap s need len l ob m = .ok v m') (hs : 0 < s) :
    ∃ n sz opn fz d t d' t' m2, ob = .row elem n sz opn fz d t ∧ off + cap * s ≤ n ∧ len ≤ cap ∧ (opn = true → sz = s) ∧ Grown len s need off l d t n sz d' t' ∧
      ((opn = false ∧ m2 = m) ∨ (opn = true ∧ fz / 2 ≤ off + len * s ∧ glb P ≤ id ∧ m2 = ⟨updN hd id m.H .dead, m.nx, min m.rm id, min m.wm id, m.dfs⟩)) ∧
      m2.nx < capN hd ∧ v = .c (.ref (.slc m2.nx 0 need need)) ∧ m' = ⟨updN hd m2.nx m2.H (.row elem (need * s) s true (newFz fz off (len * s)) d' t'), m2.nx + 1, m2.rm, m2.wm, m2.dfs⟩ := by
  unfold appendNew at h
  split at h
  · rename_i el n sz opn fz d t
    rw [iff_eq] at h
    split at h
    · rename_i hc
      simp only [Bool.and_eq_true, ble_iff] at hc
      obtain ⟨⟨⟨⟨h1, h2⟩, h3⟩, h4⟩, h5⟩ := hc
      have h3 : el = elem := Nat.eq_of_beq_eq_true h3
      subst h3
      have h5 : opn = true → sz = s := fun ho => by subst ho; exact Nat.eq_of_beq_eq_true h5
      simp only [num_eq] at h
      -- the rest, from where it goes on
      have rest : ∀ m2 : M, iff (Nat.beq off 0 && Nat.beq sz s) (appendOn el s need len (Nat.mul len s) (Nat.mul need s) fz d t l m2) (appendCopy el s need (Nat.mul len s) (Nat.mul need s) fz off sz d t l m2) = .ok v m' →
          ∃ d' t', Grown len s need off l d t n sz d' t' ∧ m2.nx < capN hd ∧ v = .c (.ref (.slc m2.nx 0 need need)) ∧ m' = ⟨updN hd m2.nx m2.H (.row el (need * s) s true (newFz fz off (len * s)) d' t'), m2.nx + 1, m2.rm, m2.wm, m2.dfs⟩ := fun m2 hgo => by
        rw [iff_eq] at hgo
        have fin : ∀ (d' : Nat) (t' : NT d' TV) (k : Nat), fresh (.row el (need * s) s true (newFz fz off (len * s)) d' t') m2 (.fail [k]) (okSlc need need) = .ok v m' →
            m2.nx < capN hd ∧ v = .c (.ref (.slc m2.nx 0 need need)) ∧ m' = ⟨updN hd m2.nx m2.H (.row el (need * s) s true (newFz fz off (len * s)) d' t'), m2.nx + 1, m2.rm, m2.wm, m2.dfs⟩ := fun d' t' k h => by
          rcases fresh_ok h with h | ⟨hnx, h⟩
          · cases h
          · obtain ⟨rfl, rfl⟩ := okSlc_eq h
            exact ⟨hnx, rfl, rfl⟩
        split at hgo
        · rename_i hc
          simp only [Bool.and_eq_true] at hc
          have ho : off = 0 := Nat.eq_of_beq_eq_true hc.1
          have hz : sz = s := Nat.eq_of_beq_eq_true hc.2
          subst ho; subst hz
          obtain ⟨d', t', hg, h⟩ := appendOn_ok (n := n) hgo
          exact ⟨d', t', hg, fin d' t' 144 h⟩
        · obtain ⟨d', t', hg, h⟩ := appendCopy_ok (n := n) hgo hs h4
          exact ⟨d', t', hg, fin d' t' 146 h⟩
      rcases killK_ok h with ⟨ho, h⟩ | ⟨ho, hfz, hg, h⟩
      · obtain ⟨d', t', a, b, c, e⟩ := rest _ h
        exact ⟨n, sz, opn, fz, d, t, d', t', _, rfl, h1, h2, h5, a, .inl ⟨ho, rfl⟩, b, c, e⟩
      · obtain ⟨d', t', a, b, c, e⟩ := rest _ h
        exact ⟨n, sz, opn, fz, d, t, d', t', _, rfl, h1, h2, h5, a, .inr ⟨ho, hfz, hg, rfl⟩, b, c, e⟩
    · cases h
  · cases h

/-- A piece of a row, as a row of its own. -/
theorem newFz_half {fz off hv j : Nat} (h : newFz fz off hv / 2 ≤ j) : fz / 2 = 0 ∨ hv ≤ j := by
  have e : Nat.mul 2 hv = 2 * hv := rfl
  have e' : Nat.mul 2 (Nat.succ hv) = 2 * (hv + 1) := rfl
  unfold newFz at h
  simp only [iff_eq] at h
  split at h
  · rename_i h0; have := Nat.eq_of_beq_eq_true h0; omega
  · split at h
    · split at h
      · rename_i h0; have := Nat.eq_of_beq_eq_true h0; omega
      · split at h
        · rw [e] at h; omega
        · rw [e'] at h; omega
    · rw [e'] at h; omega

theorem newFz_zero {fz off hv : Nat} (h : newFz fz off hv = 0) : fz = 0 := by
  have e : Nat.mul 2 hv = 2 * hv := rfl
  have e' : Nat.mul 2 (Nat.succ hv) = 2 * (hv + 1) := rfl
  unfold newFz at h
  simp only [iff_eq] at h
  split at h
  · rename_i h0; exact Nat.eq_of_beq_eq_true h0
  · split at h
    · split at h
      · cases h
      · split at h
        · rw [e] at h; omega
        · rw [e'] at h; omega
    · rw [e'] at h; omega

theorem newFz_odd {fz off hv : Nat} (h : newFz fz off hv % 2 = 1) : off = 0 ∧ fz % 2 = 1 ∧ ((newFz fz off hv / 2 = 0 ∧ fz = 1) ∨ newFz fz off hv / 2 = hv) := by
  have e : Nat.mul 2 hv = 2 * hv := rfl
  have e' : Nat.mul 2 (Nat.succ hv) = 2 * (hv + 1) := rfl
  unfold newFz at h ⊢
  simp only [iff_eq] at h ⊢
  split at h
  · omega
  · rename_i hz
    rw [if_neg hz]
    split at h
    · rename_i h0
      rw [if_pos h0]
      have hoff := Nat.eq_of_beq_eq_true h0
      split at h
      · rename_i h1
        rw [if_pos h1]
        have hone := Nat.eq_of_beq_eq_true h1
        exact ⟨hoff, by omega, .inl ⟨rfl, hone⟩⟩
      · rename_i h1
        rw [if_neg h1]
        split at h
        · rename_i h2
          rw [if_pos h2]
          have h2 : fz % 2 = 1 := Nat.eq_of_beq_eq_true h2
          refine ⟨by omega, h2, .inr ?_⟩
          rw [e]; omega
        · rw [e'] at h; omega
    · rw [e'] at h; omega

theorem RowR.seg {s d n fz : Nat} {t : NT d TV} {L : List CV} {c : Array Value} {fr : Nat × Nat} {b x blk : Nat} (hrow : Row s d n t fun i => L.getD i (.ref .top)) (hL : L.length = n) (hall : All2 (CR ρ) L ((c.toList.drop b).take n))
    (hsz : b + n + x * s ≤ c.size) (hfree : ∀ i, fz / 2 ≤ i → i < n + x * s → (decide (fr.1 ≤ b + i) && decide (b + i < fr.2)) = false) (hplain : fz % 2 = 1 → b = 0 ∧ (fr.1 = fr.2 ∨ fr.2 ≤ fz / 2)) (hhigh : fz = 0 → fr.1 = fr.2 ∨ c.size ≤ fr.1) : RowR ρ ⟨blk, b, x⟩ n s true fz d t c fr := by
  refine ⟨fun i hi => ?_, hrow.whole, hrow.lev, hrow.mult, hsz, (fun h => by cases h), hfree, hplain, hhigh⟩
  obtain ⟨y, hy, hc⟩ := hall.get i (L[i]'(by omega)) (List.getElem?_eq_getElem _)
  rw [List.getElem?_take_of_lt hi, List.getElem?_drop, Array.getElem?_toList] at hy
  refine ⟨y, hy, ?_⟩
  rw [hrow.cell i hi, List.getD_eq_getElem?_getD, List.getElem?_eq_getElem (by omega)]
  exact hc

/-- The cells that a row had, told. -/
def oldL (sz d : Nat) (t : NT d TV) (off k : Nat) : List CV := (List.range k).map fun i => cellAt sz d t (off + i)

theorem oldL_ok (sz d : Nat) (t : NT d TV) (off k : Nat) : Cells sz d t off k (oldL sz d t off k) := by
  refine ⟨by simp [oldL], fun j hj => ?_⟩
  simp [oldL, List.getD_eq_getElem?_getD, hj]

theorem Grown.list {len s need off : Nat} {l : List CV} {d : Nat} {t : NT d TV} {n sz d' : Nat} {t' : NT d' TV} (h : Grown len s need off l d t n sz d' t') (hneed : need * s = len * s + l.length) (hr : Row sz d n t (cellAt sz d t)) (hle : off + len * s ≤ n) :
    Row s d' (need * s) t' fun i => (oldL sz d t off (len * s) ++ l).getD i (.ref .top) := by
  refine (h.row hneed _ hr hle).ext fun i hi => ?_
  have ho := oldL_ok sz d t off (len * s)
  rw [List.getD_eq_getElem?_getD (l := _ ++ _), List.getElem?_append, ho.len]
  by_cases hlt : i < len * s
  · rw [if_pos hlt, if_pos hlt, ← List.getD_eq_getElem?_getD, ho.cell i hlt]
  · rw [if_neg hlt, if_neg hlt, List.getD_eq_getElem?_getD]

theorem cut_laid (C news : List Value) (b k : Nat) (h : b + k ≤ C.length) : (((C.take (b + k) ++ news ++ C.drop (b + k + news.length)).drop b).take (k + news.length)) = (C.drop b).take k ++ news := by
  rw [List.append_assoc, List.drop_append_of_le_length (by rw [List.length_take]; omega), List.drop_take, show b + k - b = k by omega, ← List.append_assoc]
  rw [List.take_left' (by rw [List.length_append, List.length_take, List.length_drop]; omega)]

theorem exec_append {o : Oper} {c : Call} {t u : TypeId} {x y : Operand} (ho : o.op = .call c) (hc : c.callee = .builtin .append) (ha : c.args.toList = [x, y]) (h0 : c.argTypes[0]? = some t) (h1 : c.argTypes[1]? = some u) (e : Operand → Value) {z : Value} {w w' : World}
    (h : (Builtin.append_ #[t, u] o.type #[e x, e y]).run P w = .ok z w') : (execOp e o).run P w = .ok (.value z) w' := by
  have hargs : c.args = #[x, y] := Array.toList_inj.1 (by rw [ha])
  rw [execBuiltin ho hc, hargs]
  simp only [builtin, append_types h0 h1, Sem.run_bind, List.map_toArray, List.map_cons, List.map_nil, h, Result.andThen_ok, Sem.run_pure]

theorem appendL_ok {o : Oper} {c : Call} {t u e : TypeId} {i : TypeInfo} {x y : Operand} (ho : o.op = .call c) (hc : c.callee = .builtin .append) (ha : c.args.toList = [x, y]) (h0 : c.argTypes[0]? = some t) (h1 : c.argTypes[1]? = some u)
    (ht : P.underlying t = some (.slice e)) (hk : (∃ e', P.underlying u = some (.slice e')) ∨ P.underlying u = some .string) (hi : P.info? e = some i) {D : Nat} : OpOK P o (appendL P e i x y (D := D)) := by
  unfold appendL
  rw [iff_eq]
  split
  · rename_i hcond
    simp only [Bool.and_eq_true, ble_iff] at hcond
    obtain ⟨⟨hs1, hbytes⟩, hzz⟩ := hcond
    have hs1 : 1 ≤ i.size := hs1
    obtain ⟨z, hz, hzs⟩ : ∃ z, i.zero = some z ∧ z.cells.size = i.size := by
      unfold zeroSz at hzz
      split at hzz
      · rename_i z hz; exact ⟨z, hz, Nat.eq_of_beq_eq_true hzz⟩
      · cases hzz
    intro cx ev m v m' h B0 A N ρ a w hw hin hr he hf
    have h : srcCells P (.fail [151]) i.size ((evO P y).f ev) m (fun n l m => appendTo P e i.size ((evO P x).f ev) n l m) = .ok v m' := h
    obtain ⟨n, l, rm, hrm, h, hsrc⟩ := srcCells_ok h
    have hxv := he.eval hr.glob x
    have hyv := he.eval hr.glob y
    -- what is appended
    have src : m'.rm ≤ rm → ∃ news, Held P ρ w i.size n l (a.eval y) news ∧ Src P i.size u (a.eval y) n news w := fun hle => by
      obtain ⟨news, hh⟩ := hsrc A B0 ρ w _ hr (fun id hid => hin id (.inl (Nat.le_trans hle hid))) hyv
      exact ⟨news, hh, hh.src hk⟩
    have exec : ∀ {z w'}, (Builtin.append_ #[t, u] o.type #[a.eval x, a.eval y]).run P w = .ok z w' → Runs P o a w z w' := fun h => .inl (exec_append ho hc ha h0 h1 a.eval h)
    -- room for what grows
    have fits : ∀ need old, old < need → need ≤ 1000000 → ((need : Nat) : Int) ≤ 9223372036854775807 ∧ Builtin.nextslicecap need old * i.bytes ≤ 281474976710656 := fun need old h1 h2 => by
      refine ⟨by omega, growslice_fits h1 ?_⟩
      have := Nat.mul_le_mul h2 hbytes
      omega
    unfold appendTo at h
    split at h
    · rename_i hxe
      rw [hxe] at hxv
      have hxv : a.eval x = .slice none 0 0 := hxv
      rw [iff_eq] at h
      split at h
      · rename_i hn
        have hn : n = 0 := Nat.eq_of_beq_eq_true hn
        cases h
        obtain ⟨news, hh, hsr⟩ := src (Nat.le_refl _)
        have hnews : news = [] := List.length_eq_zero_iff.1 (by rw [hsr.newsLen, hn, Nat.zero_mul])
        rw [hn, hnews] at hsr
        refine ⟨_, w, ρ, exec ?_, Done.looked hw hr hrm rfl⟩
        rw [hxv]
        exact run_append_nothing' t u o.type e i ht hi _ hsr
      · rename_i hn
        have hn : n ≠ 0 := fun e => hn (by rw [e]; rfl)
        unfold appendNil at h
        rw [iff_eq] at h
        split at h
        · rename_i hcap
          simp only [Bool.and_eq_true, ble_iff] at hcap
          simp only [num_eq] at h
          rcases pieces_ok i.size l (RO.fail [152]) (fun ps => bld topT (lev n) ps fun t _ => fresh (.row e l.length i.size true 1 (lev n) t) ⟨m.H, m.nx, rm, m.wm, m.dfs⟩ (.fail [152]) (okSlc n n)) with h2 | ⟨ps, h2, hps⟩
          · rw [h2] at h; cases h
          · rw [h2] at h
            obtain ⟨tr, h3, h4⟩ := bld_ok topT (lev n) ps (fun t _ => fresh (.row e l.length i.size true 1 (lev n) t) ⟨m.H, m.nx, rm, m.wm, m.dfs⟩ (.fail [152]) (okSlc n n))
            rw [h3] at h
            rcases fresh_ok h with h | ⟨hnx, h⟩
            · cases h
            · obtain ⟨rfl, rfl⟩ := okSlc_eq h
              have hρ := hf.one rfl
              obtain ⟨news, hh, hsr⟩ := src (Nat.le_refl _)
              obtain ⟨f1, f2⟩ := fits n 0 (by omega) hcap.1
              have hrun := run_append_grow_src w t u o.type e i z ht hi hz none 0 0 [] rfl (a.eval y) n news hsr (by omega) (by rw [Nat.zero_add]; exact f1) (by rw [Nat.zero_add]; exact f2)
              rw [Nat.zero_add] at hrun
              have hge := grownCap_ge w n 0 e
              have hnl : news.length = l.length := hh.cells.length.symm
              have hpl : ps.length = n := by
                have := hps.len
                rw [hh.len] at this
                exact Nat.mul_right_cancel hs1 this
              refine ⟨_, _, _, exec (by rw [hxv]; exact hrun), ⟨?_, (Post.alloc hw hr.drew hnx hρ _ _ (grownCap w n 0 e - n) ?_ _ _ _).drew_l, hrm, Nat.le_refl _, rfl⟩⟩
              · refine ⟨_, ins_self _ _, ?_⟩
                show Value.slice (some ⟨w.heap.size, 0, none⟩) n (grownCap w n 0 e) = .slice (some ⟨w.heap.size, 0, none⟩) n (n + (grownCap w n 0 e - n))
                rw [show n + (grownCap w n 0 e - n) = grownCap w n 0 e by omega]
              · refine ⟨_, _, rfl, RowR.seg (Row.of_pieces hps (by rw [hpl]; exact lev_ok _ hcap.2) h4) rfl ?_ ?_ (fun i _ _ => by simp) (fun _ => ⟨rfl, .inl rfl⟩) fun _ => .inl rfl⟩
                · rw [List.drop_zero, List.nil_append]
                  simp only [Array.toList_append]
                  rw [List.take_left' (by simp [hnl])]
                  exact All2.mono (fun _ _ => CR.mono (ins_ext hρ)) hh.cells
                · simp only [List.nil_append, Array.size_append, List.size_toArray, size_zeroCells, hnl, hzs]
                  omega
        · cases h
    · rename_i id off len cap hxe
      rw [hxe] at hxv
      obtain ⟨sg, hsg, hxv⟩ := hxv
      rw [iff_eq] at h
      split at h
      · rename_i hn
        have hn : n = 0 := Nat.eq_of_beq_eq_true hn
        rw [iff_ble] at h
        split at h
        · rename_i hlc
          cases h
          obtain ⟨news, hh, hsr⟩ := src (Nat.le_refl _)
          have hnews : news = [] := List.length_eq_zero_iff.1 (by rw [hsr.newsLen, hn, Nat.zero_mul])
          rw [hn, hnews] at hsr
          refine ⟨_, w, ρ, exec ?_, Done.looked hw hr hrm ⟨sg, hsg, rfl⟩⟩
          rw [hxv]
          exact run_append_in t u o.type e i ht hi _ len (cap + sg.ext) _ 0 [] hsr (by omega) rfl
        · cases h
      · rename_i hn
        rw [num_eq, iff_ble] at h
        split at h
        · rename_i hneed
          have hneed : len + n ≤ 1000000 := hneed
          obtain ⟨rm2, hrm2, hid, h⟩ := look_ok h
          have hrm2 : rm2 ≤ rm := hrm2
          unfold appendRow at h
          rw [iff_ble] at h
          split at h
          · -- there is room
            rename_i hroom
            have hroom : len + n ≤ cap := hroom
            unfold appendIn at h
            split at h
            · rename_i el n' sz opn fz d tr hob
              rw [iff_eq] at h
              split at h
              · rename_i hc2
                simp only [Bool.and_eq_true, ble_iff] at hc2
                have hle : off + (len + n) * i.size ≤ n' := hc2.1
                have hfz : fz / 2 ≤ off + len * i.size := hc2.2
                rw [num_eq] at h
                rcases layCells_ok sz d tr l l.length (Nat.add off (Nat.mul len i.size)) (RO.fail [238]) (fun t => turn P id (.row el n' sz opn fz d t) ⟨m.H, m.nx, rm2, m.wm, m.dfs⟩ (.fail [139]) fun m => .ok (.c (.ref (.slc id off (Nat.add len n) cap))) m) rfl with h1 | ⟨tr', h1, hrow⟩
                · rw [h1] at h; cases h
                · rw [h1] at h
                  rcases turn_ok h with h | ⟨hg, h⟩
                  · cases h
                  · cases h
                    have hA := hin id (.inl (Nat.min_le_right _ _))
                    obtain ⟨news, hh, hsr⟩ := src (Nat.le_trans (Nat.min_le_left _ _) hrm2)
                    have hat := hr.rows _ _ hsg (.inl hA)
                    have hob : obj m.H id = .row el n' sz opn fz d tr := hob
                    rw [hob] at hat
                    obtain ⟨c, fr, hb, hrr⟩ := hat
                    have hll : l.length = n * i.size := hh.len
                    have hmul : (len + n) * i.size = len * i.size + n * i.size := Nat.add_mul _ _ _
                    have hst := run_stored (P := P) hb hrr hh.cells (off := off + len * i.size) (by rw [hll]; have := Nat.le_add_right n' (sg.ext * sz); omega) hfz
                    refine ⟨_, _, ρ, exec (by rw [hxv]; exact run_append_in t u o.type e i ht hi _ len (cap + sg.ext) _ n news hsr (by omega) (by rw [Addr.add_plain, Nat.add_assoc]; exact hst)), ⟨⟨sg, hsg, rfl⟩,
                      (Post.stored hw hr hA hsg hg hob hb hrr hh.cells (by rw [hll]; show off + len * i.size + n * i.size ≤ n'; omega) (hrow _ _ hrr.row (by rw [hll]; show off + len * i.size + n * i.size ≤ n'; omega)) _ _ _).more (fun j hj => by rw [hj]; exact Nat.min_le_right _ _),
                      Nat.le_trans (Nat.min_le_left _ _) (Nat.le_trans hrm2 hrm), Nat.min_le_left _ _, rfl⟩⟩
              · cases h
            · cases h
          · -- there is none, as far as is known
            rename_i hroom
            have hroom : cap < len + n := Nat.lt_of_not_le hroom
            obtain ⟨n', sz, opn, fz, d, tr, d', tr', m2, hob, hcap, hlc, hos, hgrown, hkill, hnx, rfl, hm'⟩ := appendNew_ok h hs1
            have hob : obj m.H id = .row e n' sz opn fz d tr := hob
            have hm2 : m2.rm ≤ rm2 ∧ m2.nx = m.nx := by
              rcases hkill with ⟨_, rfl⟩ | ⟨_, _, _, rfl⟩
              · exact ⟨Nat.le_refl _, rfl⟩
              · exact ⟨Nat.min_le_left _ _, rfl⟩
            have hle2 : m'.rm ≤ rm2 := by rw [hm']; exact hm2.1
            obtain ⟨news, hh, hsr⟩ := src (Nat.le_trans hle2 hrm2)
            have hat := hr.rows _ _ hsg (hid.imp (fun h => hin id (.inl (Nat.le_trans hle2 h))) fun h => h)
            rw [hob] at hat
            obtain ⟨c, fr, hb, hrr⟩ := hat
            have hll : l.length = n * i.size := hh.len
            have hnl : news.length = l.length := hh.cells.length.symm
            have hmul : (len + n) * i.size = len * i.size + l.length := by rw [hll]; exact Nat.add_mul _ _ _
            have hcm : len * i.size ≤ cap * i.size := Nat.mul_le_mul_right _ hlc
            have hleo : off + len * i.size ≤ n' := by omega
            have hsz := hrr.size
            have hρ := hf.one (by rw [hm']; show m2.nx + 1 = _; rw [hm2.2])
            have hnx : m.nx < capN hd := by rw [← hm2.2]; exact hnx
            have hlist := hgrown.list hmul hrr.row hleo
            have hL : (oldL sz d tr off (len * i.size) ++ l).length = (len + n) * i.size := by rw [List.length_append, (oldL_ok sz d tr off _).len, hmul]
            have holds : All2 (CR ρ) (oldL sz d tr off (len * i.size)) ((c.toList.drop (sg.base + off)).take (len * i.size)) := cells_rel hrr hleo (oldL_ok _ _ _ _ _)
            have hol : ((c.toList.drop (sg.base + off)).take (len * i.size)).length = len * i.size := by rw [← holds.length, (oldL_ok sz d tr off _).len]
            -- a new row
            have grow : cap + sg.ext < len + n → ∃ r, (Builtin.append_ #[t, u] o.type #[a.eval x, a.eval y]).run P w = .ok (.slice (some ⟨w.heap.size, 0, none⟩) (len + n) (len + n + r)) (w.drew.alloc (.cells (((c.toList.drop (sg.base + off)).take (len * i.size) ++ news).toArray ++ Builtin.zeroCells z.cells r) e)) := fun hg => by
              obtain ⟨f1, f2⟩ := fits (len + n) (cap + sg.ext) hg hneed
              have hold : (Builtin.firstCells i.size len (.slice (some ⟨sg.blk, sg.base + off, none⟩) len (cap + sg.ext))).run P w.drew = .ok ((c.toList.drop (sg.base + off)).take (len * i.size)).toArray w.drew :=
                run_loadRow (P := P) (w := w.drew) hb (by omega)
              have hrun := run_append_grow_src w t u o.type e i z ht hi hz _ len (cap + sg.ext) _ hold (a.eval y) n news hsr hg f1 f2
              have hge := grownCap_ge w (len + n) (cap + sg.ext) e
              refine ⟨grownCap w (len + n) (cap + sg.ext) e - (len + n), ?_⟩
              rw [show len + n + (grownCap w (len + n) (cap + sg.ext) e - (len + n)) = grownCap w (len + n) (cap + sg.ext) e by omega]
              have hxv : a.eval x = .slice (some ⟨sg.blk, sg.base + off, none⟩) len (cap + sg.ext) := hxv
              rw [hxv]; exact hrun
            have newrow : ∀ (r : Nat) (ρ' : Rho), Ext ρ ρ' → OR ρ' ⟨w.heap.size, 0, r⟩ (.row e ((len + n) * i.size) i.size true (newFz fz off (len * i.size)) d' tr') (some (.cells (((c.toList.drop (sg.base + off)).take (len * i.size) ++ news).toArray ++ Builtin.zeroCells z.cells r) e)) := fun r ρ' hext => by
              refine ⟨_, _, rfl, RowR.seg hlist hL ?_ ?_ (fun i _ _ => by simp) (fun _ => ⟨rfl, .inl rfl⟩) fun _ => .inl rfl⟩
              · rw [List.drop_zero]
                simp only [Array.toList_append]
                rw [List.take_left' (by rw [List.length_append, hol, hnl, hmul])]
                exact All2.mono (fun _ _ => CR.mono hext) (All2.append holds hh.cells)
              · simp only [Array.size_append, List.size_toArray, List.length_append, hol, size_zeroCells, hnl, hzs]
                omega
            rcases hkill with ⟨ho, rfl⟩ | ⟨ho, hfz, hg, rfl⟩
            · -- it had no room
              subst ho
              have hext := (hrr.shut rfl).1
              obtain ⟨r, hrun⟩ := grow (by rw [hext]; exact hroom)
              subst hm'
              exact ⟨_, _, _, exec hrun, ⟨⟨_, ins_self _ _, rfl⟩, (Post.alloc hw hr.drew hnx hρ _ _ r (newrow r _ (ins_ext hρ)) _ _ _).drew_l, Nat.le_trans hrm2 hrm, Nat.le_refl _, rfl⟩⟩
            · -- it may have had
              subst hm'
              have hA : A id := hin id (.inl (Nat.min_le_right _ _))
              have hlive : Live m.H id := fun h => by rw [hob] at h; cases h
              by_cases hroom2 : len + n ≤ cap + sg.ext
              · -- it had
                have hsz' := hos ho
                subst ho
                have hroomc := hrr.room
                have hexts : (cap + sg.ext) * i.size = cap * i.size + sg.ext * i.size := Nat.add_mul _ _ _
                have hneedc : (len + n) * i.size ≤ (cap + sg.ext) * i.size := Nat.mul_le_mul_right _ hroom2
                have hst := run_stored (P := P) hb hrr hh.cells (off := off + len * i.size) (by rw [hsz']; omega) hfz
                have hcl : c.toList.length = c.size := Array.length_toList
                have hcut := cut_laid c.toList news (sg.base + off) (len * i.size) (by omega)
                have hrest : (cap + sg.ext - (len + n)) * i.size = (cap + sg.ext) * i.size - (len + n) * i.size := Nat.sub_mul _ _ _
                refine ⟨_, _, _, exec (by rw [hxv]; exact run_append_in t u o.type e i ht hi _ len (cap + sg.ext) _ n news hsr hroom2 (by rw [Addr.add_plain, Nat.add_assoc]; exact hst)),
                  ⟨⟨_, ins_self _ _, ?_⟩, (Post.move hw hr hA hsg hg hlive hnx hρ (.row e ((len + n) * i.size) i.size true (newFz fz off (len * i.size)) d' tr') ⟨sg.blk, sg.base + off, cap + sg.ext - (len + n)⟩ _ (Nat.le_of_eq (setRow_size _ _ _).symm) (.inl rfl) (fun b _ hb' => setRow_other _ _ _ _ hb') ?_ rfl rfl rfl _ _ _).more (fun j hj => by rw [hj]; exact Nat.min_le_right _ _),
                    Nat.le_trans (Nat.min_le_left _ _) (Nat.le_trans hrm2 hrm), Nat.min_le_left _ _, rfl⟩⟩
                · show Value.slice (some ⟨sg.blk, sg.base + (id, off).2, none⟩) (len + n) (cap + sg.ext) = .slice (some ⟨sg.blk, sg.base + off + 0, none⟩) (len + n) (len + n + (cap + sg.ext - (len + n)))
                  rw [show len + n + (cap + sg.ext - (len + n)) = cap + sg.ext by omega, Nat.add_zero]
                · rw [setRow_heap w sg.blk c _ e fr hb]
                  refine ⟨_, fr, rfl, RowR.seg hlist hL ?_ ?_ (fun j hj1 hj2 => ?_) (fun hodd => ?_) fun hz => ?_⟩
                  · have e1 : (len + n) * i.size = len * i.size + news.length := by rw [hnl, hmul]
                    rw [e1]
                    simp only [← Nat.add_assoc] at hcut ⊢
                    rw [hcut]
                    exact All2.mono (fun _ _ => CR.mono (ins_ext hρ)) (All2.append holds hh.cells)
                  · simp only [List.size_toArray, List.length_append, List.length_take, List.length_drop, hcl, hrest]
                    rw [hsz'] at hroomc
                    omega
                  · have := hrr.free (off + j) (by
                      rcases newFz_half hj1 with h0 | h0 <;> omega) (by rw [hsz']; omega)
                    rw [← Nat.add_assoc] at this; exact this
                  · obtain ⟨h1, h2, h3⟩ := newFz_odd hodd
                    obtain ⟨h4, h5⟩ := hrr.plain h2
                    refine ⟨by rw [h4, h1], h5.imp (fun q => q) fun h5 => ?_⟩
                    rcases h3 with ⟨h3, h6⟩ | h3 <;> omega
                  · have := hrr.high (newFz_zero hz)
                    simp only [List.size_toArray, List.length_append, List.length_take, List.length_drop, hcl]
                    refine this.imp (fun q => q) fun q => ?_
                    rw [hsz'] at hroomc
                    omega
              · -- it had not
                obtain ⟨r, hrun⟩ := grow (by omega)
                have hp := Post.move (w := w.drew) hw hr.drew hA hsg hg hlive hnx hρ (.row e ((len + n) * i.size) i.size true (newFz fz off (len * i.size)) d' tr') ⟨w.heap.size, 0, r⟩ (w.drew.alloc (.cells (((c.toList.drop (sg.base + off)).take (len * i.size) ++ news).toArray ++ Builtin.zeroCells z.cells r) e)) (by rw [World.size_alloc]; exact Nat.le_succ _) (.inr ⟨Nat.le_refl _, by rw [World.size_alloc]; exact Nat.lt_succ_self _⟩)
                  (fun b hb' _ => by simp only [World.alloc, Array.getElem?_push]; rw [if_neg (Nat.ne_of_lt hb')]) (by
                    have : (w.drew.alloc (.cells (((c.toList.drop (sg.base + off)).take (len * i.size) ++ news).toArray ++ Builtin.zeroCells z.cells r) e)).heap[w.heap.size]? = some (.cells (((c.toList.drop (sg.base + off)).take (len * i.size) ++ news).toArray ++ Builtin.zeroCells z.cells r) e) := by
                      show (w.heap.push _)[w.heap.size]? = _
                      exact Array.getElem?_push_size
                    rw [this]
                    exact newrow r _ (ins_ext hρ)) rfl rfl rfl (min rm2 id) (min m.wm id) m.dfs
                exact ⟨_, _, _, exec hrun, ⟨⟨_, ins_self _ _, rfl⟩, hp.drew_l.more (fun j hj => by rw [hj]; exact Nat.min_le_right _ _), Nat.le_trans (Nat.min_le_left _ _) (Nat.le_trans hrm2 hrm), Nat.min_le_left _ _, rfl⟩⟩
        · cases h
    · rename_i id off len cap hxe
      rw [hxe] at hxv
      obtain ⟨sg, hsg, hxv⟩ := hxv
      rw [iff_eq] at h
      split at h
      · rename_i hn
        have hn : n = 0 := Nat.eq_of_beq_eq_true hn
        rw [iff_ble] at h
        split at h
        · rename_i hlc
          cases h
          obtain ⟨news, hh, hsr⟩ := src (Nat.le_refl _)
          have hnews : news = [] := List.length_eq_zero_iff.1 (by rw [hsr.newsLen, hn, Nat.zero_mul])
          rw [hn, hnews] at hsr
          refine ⟨_, w, ρ, exec ?_, Done.looked hw hr hrm ⟨sg, hsg, rfl⟩⟩
          rw [hxv]
          exact run_append_in t u o.type e i ht hi _ len cap _ 0 [] hsr (by omega) rfl
        · cases h
      · rename_i hn
        rw [num_eq, iff_ble] at h
        split at h
        · rename_i hneed
          have hneed : len + n ≤ 1000000 := hneed
          obtain ⟨rm2, hrm2, hid, h⟩ := look_ok h
          have hrm2 : rm2 ≤ rm := hrm2
          unfold appendShut at h
          split at h
          · rename_i el0 n0 sz0 opn0 fz0 d0 t0 hob
            rw [iff_ble] at h
            split at h
            · cases h
            · rename_i hroom
              have hroom : cap < len + n := Nat.lt_of_not_le hroom
              obtain ⟨n', sz, opn, fz, d, tr, d', tr', m2, hob', hcap, hlc, hos, hgrown, hkill, hnx, rfl, hm'⟩ := appendNew_ok h hs1
              obtain ⟨rfl, rfl, rfl, rfl, rfl, rfl, hdt⟩ : el0 = e ∧ n0 = n' ∧ sz0 = sz ∧ false = opn ∧ fz0 = fz ∧ d0 = d ∧ HEq t0 tr := by
                injection hob' with a1 a2 a3 a4 a5 a6 a7
                exact ⟨a1, a2, a3, a4, a5, a6, a7⟩
              obtain rfl := eq_of_heq hdt
              rcases hkill with ⟨_, rfl⟩ | ⟨ho, _⟩
              · have hob : obj m.H id = .row el0 n0 sz0 opn0 fz0 d0 t0 := hob
                have hle2 : m'.rm ≤ rm2 := by rw [hm']; exact Nat.le_refl _
                obtain ⟨news, hh, hsr⟩ := src (Nat.le_trans hle2 hrm2)
                have hat := hr.rows _ _ hsg (hid.imp (fun h => hin id (.inl (Nat.le_trans hle2 h))) fun h => h)
                rw [hob] at hat
                obtain ⟨c, fr, hb, hrr⟩ := hat
                have hll : l.length = n * i.size := hh.len
                have hnl : news.length = l.length := hh.cells.length.symm
                have hmul : (len + n) * i.size = len * i.size + l.length := by rw [hll]; exact Nat.add_mul _ _ _
                have hcm : len * i.size ≤ cap * i.size := Nat.mul_le_mul_right _ hlc
                have hleo : off + len * i.size ≤ n0 := by omega
                have hsz := hrr.size
                have hρ := hf.one (by rw [hm'])
                have hnx : m.nx < capN hd := hnx
                have hlist := hgrown.list hmul hrr.row hleo
                have hL : (oldL sz0 d0 t0 off (len * i.size) ++ l).length = (len + n) * i.size := by rw [List.length_append, (oldL_ok sz0 d0 t0 off _).len, hmul]
                have holds : All2 (CR ρ) (oldL sz0 d0 t0 off (len * i.size)) ((c.toList.drop (sg.base + off)).take (len * i.size)) := cells_rel hrr hleo (oldL_ok _ _ _ _ _)
                have hol : ((c.toList.drop (sg.base + off)).take (len * i.size)).length = len * i.size := by rw [← holds.length, (oldL_ok sz0 d0 t0 off _).len]
                obtain ⟨r, hrun⟩ : ∃ r, (Builtin.append_ #[t, u] o.type #[a.eval x, a.eval y]).run P w = .ok (.slice (some ⟨w.heap.size, 0, none⟩) (len + n) (len + n + r)) (w.drew.alloc (.cells (((c.toList.drop (sg.base + off)).take (len * i.size) ++ news).toArray ++ Builtin.zeroCells z.cells r) el0)) := by
                  obtain ⟨f1, f2⟩ := fits (len + n) cap hroom hneed
                  have hold : (Builtin.firstCells i.size len (.slice (some ⟨sg.blk, sg.base + off, none⟩) len cap)).run P w.drew = .ok ((c.toList.drop (sg.base + off)).take (len * i.size)).toArray w.drew :=
                    run_loadRow (P := P) (w := w.drew) hb (by omega)
                  have hrun := run_append_grow_src w t u o.type el0 i z ht hi hz _ len cap _ hold (a.eval y) n news hsr hroom f1 f2
                  have hge := grownCap_ge w (len + n) cap el0
                  refine ⟨grownCap w (len + n) cap el0 - (len + n), ?_⟩
                  rw [show len + n + (grownCap w (len + n) cap el0 - (len + n)) = grownCap w (len + n) cap el0 by omega]
                  have hxv : a.eval x = .slice (some ⟨sg.blk, sg.base + off, none⟩) len cap := hxv
                  rw [hxv]; exact hrun
                have newrow : ∀ (r : Nat) (ρ' : Rho), Ext ρ ρ' → OR ρ' ⟨w.heap.size, 0, r⟩ (.row el0 ((len + n) * i.size) i.size true (newFz fz0 off (len * i.size)) d' tr') (some (.cells (((c.toList.drop (sg.base + off)).take (len * i.size) ++ news).toArray ++ Builtin.zeroCells z.cells r) el0)) := fun r ρ' hext => by
                  refine ⟨_, _, rfl, RowR.seg hlist hL ?_ ?_ (fun i _ _ => by simp) (fun _ => ⟨rfl, .inl rfl⟩) fun _ => .inl rfl⟩
                  · rw [List.drop_zero]
                    simp only [Array.toList_append]
                    rw [List.take_left' (by rw [List.length_append, hol, hnl, hmul])]
                    exact All2.mono (fun _ _ => CR.mono hext) (All2.append holds hh.cells)
                  · simp only [Array.size_append, List.size_toArray, List.length_append, hol, size_zeroCells, hnl, hzs]
                    omega
                subst hm'
                exact ⟨_, _, _, exec hrun, ⟨⟨_, ins_self _ _, rfl⟩, (Post.alloc hw hr.drew hnx hρ _ _ r (newrow r _ (ins_ext hρ)) _ _ _).drew_l, Nat.le_trans hrm2 hrm, Nat.le_refl _, rfl⟩⟩
              · cases ho
          · cases h
        · cases h
    · rename_i hxe
      rw [hxe] at hxv
      obtain ⟨ad, hxv⟩ := hxv
      have hxv : a.eval x = .slice (some ad) 0 0 := hxv
      rw [iff_eq] at h
      split at h
      · rename_i hn
        have hn : n = 0 := Nat.eq_of_beq_eq_true hn
        cases h
        obtain ⟨news, hh, hsr⟩ := src (Nat.le_refl _)
        have hnews : news = [] := List.length_eq_zero_iff.1 (by rw [hsr.newsLen, hn, Nat.zero_mul])
        rw [hn, hnews] at hsr
        refine ⟨_, w, ρ, exec ?_, Done.looked hw hr hrm ⟨ad, rfl⟩⟩
        rw [hxv]
        exact run_append_in t u o.type e i ht hi _ 0 0 _ 0 [] hsr (by omega) rfl
      · rename_i hn
        have hn : n ≠ 0 := fun e => hn (by rw [e]; rfl)
        unfold appendNil at h
        rw [iff_eq] at h
        split at h
        · rename_i hcap
          simp only [Bool.and_eq_true, ble_iff] at hcap
          simp only [num_eq] at h
          rcases pieces_ok i.size l (RO.fail [152]) (fun ps => bld topT (lev n) ps fun t _ => fresh (.row e l.length i.size true 1 (lev n) t) ⟨m.H, m.nx, rm, m.wm, m.dfs⟩ (.fail [152]) (okSlc n n)) with h2 | ⟨ps, h2, hps⟩
          · rw [h2] at h; cases h
          · rw [h2] at h
            obtain ⟨tr, h3, h4⟩ := bld_ok topT (lev n) ps (fun t _ => fresh (.row e l.length i.size true 1 (lev n) t) ⟨m.H, m.nx, rm, m.wm, m.dfs⟩ (.fail [152]) (okSlc n n))
            rw [h3] at h
            rcases fresh_ok h with h | ⟨hnx, h⟩
            · cases h
            · obtain ⟨rfl, rfl⟩ := okSlc_eq h
              have hρ := hf.one rfl
              obtain ⟨news, hh, hsr⟩ := src (Nat.le_refl _)
              obtain ⟨f1, f2⟩ := fits n 0 (by omega) hcap.1
              have hrun := run_append_grow_src w t u o.type e i z ht hi hz (some ad) 0 0 [] (by show (loadCells ad (0 * i.size)).run P w.drew = _; rw [Nat.zero_mul]; rfl) (a.eval y) n news hsr (by omega) (by rw [Nat.zero_add]; exact f1) (by rw [Nat.zero_add]; exact f2)
              rw [Nat.zero_add] at hrun
              have hge := grownCap_ge w n 0 e
              have hnl : news.length = l.length := hh.cells.length.symm
              have hpl : ps.length = n := by
                have := hps.len
                rw [hh.len] at this
                exact Nat.mul_right_cancel hs1 this
              refine ⟨_, _, _, exec (by rw [hxv]; exact hrun), ⟨?_, (Post.alloc hw hr.drew hnx hρ _ _ (grownCap w n 0 e - n) ?_ _ _ _).drew_l, hrm, Nat.le_refl _, rfl⟩⟩
              · refine ⟨_, ins_self _ _, ?_⟩
                show Value.slice (some ⟨w.heap.size, 0, none⟩) n (grownCap w n 0 e) = .slice (some ⟨w.heap.size, 0, none⟩) n (n + (grownCap w n 0 e - n))
                rw [show n + (grownCap w n 0 e - n) = grownCap w n 0 e by omega]
              · refine ⟨_, _, rfl, RowR.seg (Row.of_pieces hps (by rw [hpl]; exact lev_ok _ hcap.2) h4) rfl ?_ ?_ (fun i _ _ => by simp) (fun _ => ⟨rfl, .inl rfl⟩) fun _ => .inl rfl⟩
                · rw [List.drop_zero, List.nil_append]
                  simp only [Array.toList_append]
                  rw [List.take_left' (by simp [hnl])]
                  exact All2.mono (fun _ _ => CR.mono (ins_ext hρ)) hh.cells
                · simp only [List.nil_append, Array.size_append, List.size_toArray, size_zeroCells, hnl, hzs]
                  omega
        · cases h
    · cases h
  · exact OpOK.no

theorem appendD_ok {o : Oper} {c : Call} {x y : Operand} (ho : o.op = .call c) (hc : c.callee = .builtin .append) (ha : c.args.toList = [x, y]) {D : Nat} : OpOK P o (appendD P c.argTypes x y (D := D)) := by
  unfold appendD
  split
  · rename_i t u h0 h1
    split
    · rename_i e e' ht hu
      unfold appendE
      split
      · rename_i i hi
        exact appendL_ok ho hc ha h0 h1 ht (.inl ⟨_, hu⟩) hi
      · exact OpOK.no
    · rename_i e ht hu
      unfold appendE
      split
      · rename_i i hi
        exact appendL_ok ho hc ha h0 h1 ht (.inr hu) hi
      · exact OpOK.no
    · exact OpOK.no
  · exact OpOK.no

/-! ### copy -/

theorem exec_copy {o : Oper} {c : Call} {x y : Operand} (ho : o.op = .call c) (hc : c.callee = .builtin .copy) (ha : c.args.toList = [x, y]) (e : Operand → Value) {z : Value} {w w' : World}
    (h : (Builtin.copy_ c.argTypes o.type #[e x, e y]).run P w = .ok z w') : (execOp e o).run P w = .ok (.value z) w' := by
  have hargs : c.args = #[x, y] := Array.toList_inj.1 (by rw [ha])
  rw [execBuiltin ho hc, hargs]
  simp only [builtin, Sem.run_bind, List.map_toArray, List.map_cons, List.map_nil, h, Result.andThen_ok, Sem.run_pure]

theorem copyL_ok {o : Oper} {c : Call} {t e : TypeId} {x y : Operand} (ho : o.op = .call c) (hc : c.callee = .builtin .copy) (ha : c.args.toList = [x, y]) (h0 : c.argTypes[0]? = some t) (ht : P.underlying t = some (.slice e)) {D : Nat} : OpOK P o (copyL P e x y (D := D)) := by
  unfold copyL
  split
  · rename_i s hS
    intro cx ev m v m' h B0 A N ρ a w hw hin hr he hf
    have h : srcCells P (.fail [162]) (s + 1) ((evO P y).f ev) m (fun n l m => copyTo P (s + 1) ((evO P x).f ev) n l m) = .ok v m' := h
    obtain ⟨n, l, rm, hrm, h, hsrc⟩ := srcCells_ok h
    have hxv := he.eval hr.glob x
    have hyv := he.eval hr.glob y
    have src : m'.rm ≤ rm → ∃ news, Held P ρ w (s + 1) n l (a.eval y) news := fun hle =>
      hsrc A B0 ρ w _ hr (fun id hid => hin id (.inl (Nat.le_trans hle hid))) hyv
    unfold copyTo at h
    split at h
    · rename_i hxe
      rw [hxe] at hxv
      have hxv : a.eval x = .slice none 0 0 := hxv
      obtain ⟨rfl, rfl⟩ := okN_eq h
      obtain ⟨news, hh⟩ := src (Nat.le_refl _)
      refine ⟨_, w, ρ, .inl (exec_copy ho hc ha a.eval (z := .int .i64 (Int.ofNat 0)) ?_), Done.looked hw hr hrm rfl⟩
      have hfirst := hh.first 0 w (Nat.zero_le _) rfl
      rw [hxv]
      simp [Builtin.copy_, h0, run_underlying ht, hh.lenOf, run_sizeT hS, hfirst, goInt]
    · rename_i id off len cap hxe
      rw [hxe] at hxv
      obtain ⟨sg, hsg, hxv⟩ := hxv
      have hxv : a.eval x = .slice (some ⟨sg.blk, sg.base + off, none⟩) len (cap + sg.ext) := hxv
      have hmin : ∀ (k : Nat → RO), minK n len k = k (min n len) := fun k => by
        unfold minK
        rw [iff_ble, Nat.min_def]
        split <;> rfl
      rw [hmin, num_eq, takeL_eq] at h
      obtain ⟨rm2, hrm2, hid, h⟩ := look_ok h
      have hrm2 : rm2 ≤ rm := hrm2
      unfold copyDone at h
      split at h
      · rename_i v1 m1 h1
        obtain ⟨rfl, rfl⟩ := okN_eq h
        obtain ⟨el, n', sz, opn, fz, d, tr, tr', hob, hle, hfz, hs, hg, _, hv, hm, hrow⟩ := storeRow_ok h1
        have hob : obj m.H id = .row el n' sz opn fz d tr := hob
        subst hm
        have hA := hin id (.inl (Nat.min_le_right _ _))
        obtain ⟨news, hh⟩ := src (Nat.le_trans (Nat.min_le_left _ _) hrm2)
        have hat := hr.rows _ _ hsg (.inl hA)
        rw [hob] at hat
        obtain ⟨cs, fr, hb, hrr⟩ := hat
        have hcells : All2 (CR ρ) (l.take (Nat.mul (min n len) (s + 1))) (news.take (Nat.mul (min n len) (s + 1))) := All2.take _ hh.cells
        have hle : off + Nat.mul (min n len) (s + 1) ≤ n' := hle
        have hst := run_stored (P := P) hb hrr hcells (off := off) (by rw [hs]; have := Nat.le_add_right n' (sg.ext * sz); omega) hfz
        refine ⟨_, _, ρ, .inl (exec_copy ho hc ha a.eval (z := .int .i64 (Int.ofNat (min n len))) ?_), ⟨rfl, (Post.stored hw hr hA hsg hg hob hb hrr hcells (by rw [hs]; exact hle) (hrow _ hrr.row) _ _ _).more (fun j hj => by rw [hj]; exact Nat.min_le_right _ _), Nat.le_trans (Nat.min_le_left _ _) (Nat.le_trans hrm2 hrm), Nat.min_le_left _ _, rfl⟩⟩
        have hfirst := hh.first (min n len) w (Nat.min_le_left _ _) rfl
        have hfirst : (Builtin.firstCells (s + 1) (Nat.min n len) (a.eval y)).run P w = .ok (news.take (Nat.mul (min n len) (s + 1))).toArray w := hfirst
        rw [hxv]
        simp only [Builtin.copy_, h0, Sem.run_bind, run_underlying ht, Result.andThen_ok, List.getElem?_toArray, List.getElem?_cons_zero, List.getElem?_cons_succ, hh.lenOf, run_sizeT hS, hfirst, hst, Sem.run_pure]
        rfl
      · cases h
    · cases h
  · exact OpOK.no

theorem copyD_ok {o : Oper} {c : Call} {x y : Operand} (ho : o.op = .call c) (hc : c.callee = .builtin .copy) (ha : c.args.toList = [x, y]) {D : Nat} : OpOK P o (copyD P c.argTypes x y (D := D)) := by
  unfold copyD
  split
  · rename_i t h0
    split
    · rename_i e ht
      exact copyL_ok ho hc ha h0 ht
    · exact OpOK.no
  · exact OpOK.no

theorem dataPtr_ok {o : Oper} {c : Call} {x : Operand} (ho : o.op = .call c) (hc : c.callee = .builtin .unsafeSliceData) (ha : c.args.toList = [x]) {D : Nat} : OpOK P o (⟨fun _ e m => dataPtr ((evO P x).f e) m⟩ : OpF D) := by
  have hargs : c.args = #[x] := Array.toList_inj.1 (by rw [ha])
  have run : ∀ (a : Act) (y : Value) (w : World), (Builtin.unsafeSliceData_ c.argTypes o.type #[a.eval x]).run P w = .ok y w → (execOp a.eval o).run P w = .ok (.value y) w := fun a y w h => by
    rw [execBuiltin ho hc, hargs]
    simp only [builtin, Sem.run_bind, List.map_toArray, List.map_cons, List.map_nil, h, Result.andThen_ok, Sem.run_pure]
  refine OpOK.val fun cx e m v m' h => ?_
  have h : dataPtr ((evO P x).f e) m = .ok v m' := h
  unfold dataPtr at h
  split at h
  · rename_i hs
    cases h
    refine ⟨rfl, fun ρ a w hx => ⟨.pointer none, run a _ w ?_, rfl⟩⟩
    have := hx x
    rw [hs] at this
    have hv : a.eval x = .slice none 0 0 := this
    rw [hv]
    rfl
  · rename_i id off ln cap hs
    rw [iff_ble] at h
    split at h
    · rename_i hcap
      cases h
      refine ⟨rfl, fun ρ a w hx => ?_⟩
      have := hx x
      rw [hs] at this
      obtain ⟨sg, hsg, hv⟩ := this
      refine ⟨.pointer (some ⟨sg.blk, sg.base + off, none⟩), run a _ w ?_, ⟨sg, hsg, rfl⟩⟩
      rw [hv]
      exact Lib.run_unsafeSliceData_row w _ _ _ _ _ (by omega)
    · cases h
  · cases h

theorem freeze_heap (w : World) {b n : Nat} {cs : Array Value} {el : TypeId} {fr : Nat × Nat} (hb : w.heap[b]? = some (.cells cs el fr)) (hn : n ≠ 0) :
    (w.freeze ⟨b, 0, none⟩ n).heap[b]? = some (.cells cs el (if fr.1 == fr.2 then (0, 0 + n) else (min fr.1 0, max fr.2 (0 + n)))) ∧ (w.freeze ⟨b, 0, none⟩ n).heap.size = w.heap.size ∧
      (∀ b', b' ≠ b → (w.freeze ⟨b, 0, none⟩ n).heap[b']? = w.heap[b']?) ∧ (w.freeze ⟨b, 0, none⟩ n).tape = w.tape ∧ (w.freeze ⟨b, 0, none⟩ n).os = w.os ∧ (w.freeze ⟨b, 0, none⟩ n).output = w.output := by
  unfold World.freeze
  rw [if_neg hn]
  refine ⟨?_, by simp, fun b' hb' => ?_, rfl, rfl, rfl⟩
  · simp only [Array.getElem?_modify]
    rw [if_pos trivial, hb]
    rfl
  · simp only [Array.getElem?_modify]
    rw [if_neg (fun e => hb' e.symm)]

theorem dataText_ok {o : Oper} {c : Call} {x y : Operand} (ho : o.op = .call c) (hc : c.callee = .builtin .unsafeString) (ha : c.args.toList = [x, y]) {D : Nat} : OpOK P o (dataTextD P c.argTypes x y (D := D)) := by
  have hargs : c.args = #[x, y] := Array.toList_inj.1 (by rw [ha])
  have run : ∀ (a : Act) (z : Value) (w w' : World), (Builtin.unsafeString_ c.argTypes o.type #[a.eval x, a.eval y]).run P w = .ok z w' → (execOp a.eval o).run P w = .ok (.value z) w' := fun a z w w' h => by
    rw [execBuiltin ho hc, hargs]
    simp only [builtin, Sem.run_bind, List.map_toArray, List.map_cons, List.map_nil, h, Result.andThen_ok, Sem.run_pure]
  unfold dataTextD
  split
  · rename_i pt it hts
    have hat : c.argTypes = #[pt, it] := Array.toList_inj.1 (by rw [hts])
    split
    · rename_i el hpt
      rw [iff_eq]
      split
      · rename_i hcel
        have hcel := Nat.eq_of_beq_eq_true hcel
        intro cx e m v m' h B0 A N ρ a w hw hin hr he hf
        have hxv := he.eval hr.glob x
        have hyv := he.eval hr.glob y
        have h : dataText P el ((evO P x).f e) ((evO P y).f e) m = .ok v m' := h
        unfold dataText at h
        split at h
        · rename_i hy
          rw [hy] at hyv
          have hye : a.eval y = .int .i64 0 := hyv
          split at h
          · rename_i hx
            rw [hx] at hxv
            have hxe : a.eval x = .pointer none := hxv
            cases h
            refine ⟨.string .empty, w, ρ, .inl (run a _ w w ?_), Done.pure hw hr ⟨rfl, fun c hc => by cases hc⟩⟩
            rw [hxe, hye, hat]
            exact Lib.run_unsafeString_none w pt it o.type none
          · rename_i id off hx
            rw [hx] at hxv
            obtain ⟨sg, _, hxe⟩ := hxv
            cases h
            refine ⟨.string .empty, w, ρ, .inl (run a _ w w ?_), Done.pure hw hr ⟨rfl, fun c hc => by cases hc⟩⟩
            rw [hxe, hye, hat]
            exact Lib.run_unsafeString_none w pt it o.type _
          · cases h
        · rename_i n hy
          rw [hy] at hyv
          have hye : a.eval y = .int .i64 (Int.ofNat (n + 1)) := hyv
          split at h
          · rename_i id hx
            rw [hx] at hxv
            obtain ⟨sg, hsg, hxe⟩ := hxv
            rw [iff_ble] at h
            split at h
            · rename_i hn6
              obtain ⟨rm, hrm, hid, h⟩ := look_ok h
              unfold dataStr at h
              split at h
              · rename_i el' nn sz opn fz d tr hob
                rw [iff_eq] at h
                split at h
                · rename_i hcond
                  simp only [Bool.and_eq_true, ble_iff] at hcond
                  obtain ⟨⟨⟨hel, hsz1⟩, hodd⟩, hle⟩ := hcond
                  have hel := Nat.eq_of_beq_eq_true hel
                  have hsz1 := Nat.eq_of_beq_eq_true hsz1
                  have hodd : fz % 2 = 1 := Nat.eq_of_beq_eq_true hodd
                  subst hel; subst hsz1
                  have keyA : A id → ∃ x w' ρ', Runs P o a w x w' ∧ Done P B0 A ρ m w v m' x w' ρ' := by
                    intro hAid
                    have hat' := hr.rows _ _ hsg (.inl hAid)
                    rw [hob] at hat'
                    obtain ⟨cs, fr, hb, hrr⟩ := hat'
                    rcases takeCells_ok hrr.row (n + 1) 0 (RO.fail [252]) (fun l => cellBytes (.fail [252]) l fun s => forceStr s fun s => num (Nat.succ (Nat.mul 2 (Nat.max (Nat.div fz 2) (n + 1)))) fun fz => turn P id (.row el' nn 1 opn fz d tr) ⟨m.H, m.nx, rm, m.wm, m.dfs⟩ (.fail [252]) fun m => .ok (.c (.str s)) m) (by omega) with h1 | ⟨l, h1, hl⟩
                    · rw [h1] at h; cases h
                    · rw [h1] at h
                      rcases cellBytes_ok (RO.fail [252]) l (fun s => forceStr s fun s => num (Nat.succ (Nat.mul 2 (Nat.max (Nat.div fz 2) (n + 1)))) fun fz => turn P id (.row el' nn 1 opn fz d tr) ⟨m.H, m.nx, rm, m.wm, m.dfs⟩ (.fail [252]) fun m => .ok (.c (.str s)) m) with h2 | ⟨s, h2, h3, h4⟩
                      · rw [h2] at h; cases h
                      · rw [h2, forceStr_eq, num_eq] at h
                        rcases turn_ok' h with h5 | ⟨hg, hidx, h5⟩
                        · cases h5
                        · cases h5
                          have hlen : s.length = n + 1 := by
                            have := hl.len
                            rw [h3] at this
                            simpa using this
                          have hbase := (hrr.plain hodd).1
                          have hxe : a.eval x = .pointer (some ⟨sg.blk, 0, none⟩) := by rw [hxe, hbase]; rfl
                          have hcsz := hrr.size
                          have hcell : ∀ (j : Nat) (q : UInt8), (s.map UInt8.ofNat)[j]? = some q → w.cell? ((⟨sg.blk, 0, none⟩ : Addr).add j) = some (.int .u8 q.toNat) := by
                            intro j q hq
                            rw [List.getElem?_map] at hq
                            cases hsj : s[j]? with
                            | none => rw [hsj] at hq; cases hq
                            | some z =>
                              rw [hsj] at hq
                              cases hq
                              have hj : j < n + 1 := by
                                have := (List.getElem?_eq_some_iff.1 hsj).1
                                omega
                              obtain ⟨b, hb2, hcr⟩ := hrr.cell j (by omega)
                              have hc2 := hl.cell j hj
                              rw [Nat.zero_add] at hc2
                              rw [← hc2, h3, List.getD_eq_getElem?_getD, List.getElem?_map, hsj] at hcr
                              have hcr : b = .int .u8 (Int.ofNat z) := hcr
                              rw [Addr.add_plain, Nat.zero_add, cell_at hb]
                              rw [hbase, Nat.zero_add] at hb2
                              rw [hb2, hcr, UInt8_back (h4 z (List.mem_of_getElem? hsj))]
                              rfl
                          have hrun := Lib.run_unsafeString_row (P := P) w pt it o.type el' hpt hcel sg.blk cs.size (by simp only [World.shape?, hb]) (s.map UInt8.ofNat) (by
                            intro h0
                            have := congrArg List.length h0
                            simp only [List.length_map, List.length_nil] at this
                            omega) (by rw [List.length_map, hlen]; omega) (by rw [List.length_map, hlen]; omega) hcell
                          rw [List.length_map, hlen] at hrun
                          obtain ⟨f1, f2, f3, f4, f5, f6⟩ := freeze_heap w hb (Nat.succ_ne_zero n)
                          have hlive : Live m.H id := fun h => by rw [hob] at h; cases h
                          refine ⟨_, _, ρ, .inl (run a _ w _ (by rw [hxe, hye, hat]; exact hrun)), ⟨⟨rfl, h4⟩, (Post.turn hw hr hAid hsg hg hlive _ _ f2 f3 ?_ f4 f5 f6 _ _ _).more (fun i hi => by rw [hi]; exact Nat.min_le_right _ _), Nat.le_trans (Nat.min_le_left _ _) hrm, Nat.min_le_left _ _, rfl⟩⟩
                          rw [f1]
                          have e1 : Nat.succ (Nat.mul 2 (Nat.max (Nat.div fz 2) (n + 1))) = 2 * max (fz / 2) (n + 1) + 1 := rfl
                          have e2 : (2 * max (fz / 2) (n + 1) + 1) / 2 = max (fz / 2) (n + 1) := by omega
                          rw [e1]
                          have hfr := (hrr.plain hodd).2
                          refine ⟨cs, _, rfl, ⟨hrr.cell, hrr.whole, hrr.lev, hrr.mult, hrr.room, hrr.shut, fun i hi _ => ?_, fun _ => ⟨hbase, .inr ?_⟩, fun h => by omega⟩⟩
                          · rw [e2] at hi
                            rw [Bool.and_eq_false_iff]
                            right
                            rw [hbase]
                            by_cases hq : fr.1 = fr.2
                            · simp only [hq, beq_self_eq_true, if_true, decide_eq_false_iff_not]
                              omega
                            · have : (fr.1 == fr.2) = false := by simpa using hq
                              simp only [this, Bool.false_eq_true, if_false, decide_eq_false_iff_not]
                              rcases hfr with hfr | hfr
                              · exact absurd hfr hq
                              · omega
                          · rw [e2]
                            by_cases hq : fr.1 = fr.2
                            · simp only [hq, beq_self_eq_true, if_true]
                              omega
                            · have : (fr.1 == fr.2) = false := by simpa using hq
                              simp only [this, Bool.false_eq_true, if_false]
                              rcases hfr with hfr | hfr
                              · exact absurd hfr hq
                              · omega
                  refine keyA (hin id (.inl ?_))
                  rcases takeCells_or 1 d tr (n + 1) 0 (RO.fail [252]) (fun l => cellBytes (.fail [252]) l fun s => forceStr s fun s => num (Nat.succ (Nat.mul 2 (Nat.max (Nat.div fz 2) (n + 1)))) fun fz => turn P id (.row el' nn 1 opn fz d tr) ⟨m.H, m.nx, rm, m.wm, m.dfs⟩ (.fail [252]) fun m => .ok (.c (.str s)) m) with h1 | ⟨l, h1⟩
                  · rw [h1] at h; cases h
                  · rw [h1] at h
                    rcases cellBytes_ok (RO.fail [252]) l (fun s => forceStr s fun s => num (Nat.succ (Nat.mul 2 (Nat.max (Nat.div fz 2) (n + 1)))) fun fz => turn P id (.row el' nn 1 opn fz d tr) ⟨m.H, m.nx, rm, m.wm, m.dfs⟩ (.fail [252]) fun m => .ok (.c (.str s)) m) with h2 | ⟨s, h2, h3, h4⟩
                    · rw [h2] at h; cases h
                    · rw [h2, forceStr_eq, num_eq] at h
                      rcases turn_ok' h with h5 | ⟨hg, hidx, h5⟩
                      · cases h5
                      · cases h5
                        exact Nat.min_le_right _ _
                · cases h
              · cases h
            · cases h
          · cases h
        · cases h
      · exact OpOK.no
    · exact OpOK.no
  · exact OpOK.no

theorem capD_ok {o : Oper} {c : Call} {t : TypeId} {x : Operand} (ho : o.op = .call c) (hc : c.callee = .builtin .cap) (ha : c.args.toList = [x]) (ht : c.argTypes[0]? = some t) {D : Nat} : OpOK P o (capD P o t x (D := D)) := by
  have hargs : c.args = #[x] := Array.toList_inj.1 (by rw [ha])
  have hsel : ∀ cs b, o.op ≠ .select cs b := fun cs b h => by rw [ho] at h; cases h
  have run : ∀ (a : Act) (n : Nat) (w : World), (Builtin.cap_ c.argTypes o.type #[a.eval x]).run P w = .ok (goInt n) w → (execOp a.eval o).run P w = .ok (.value (.int .i64 (Int.ofNat n))) w := fun a n w h => by
    rw [execBuiltin ho hc, hargs]
    simp only [builtin, Sem.run_bind, List.map_toArray, List.map_cons, List.map_nil, h, Result.andThen_ok, Sem.run_pure]
    rfl
  unfold capD
  split
  · rename_i el hu
    refine OpOK.val fun cx e m v m' h => ?_
    have h : capA ((evO P x).f e) m = .ok v m' := h
    unfold capA at h
    split at h
    · rename_i hs
      obtain ⟨rfl, rfl⟩ := okN_eq h
      refine ⟨rfl, fun ρ a w hx => ⟨_, run a 0 w ?_, rfl⟩⟩
      have := hx x
      rw [hs] at this
      have hv : a.eval x = .slice none 0 0 := this
      rw [hv]
      simp [Builtin.cap_, ht, run_underlying hu]
    · rename_i id off ln cap hs
      cases h
      refine ⟨rfl, fun ρ a w hx => ?_⟩
      have := hx x
      rw [hs] at this
      obtain ⟨sg, hsg, hv⟩ := this
      refine ⟨_, run a (cap + sg.ext) w ?_, ⟨sg, hsg, rfl⟩⟩
      rw [hv]
      simp [Builtin.cap_, ht, run_underlying hu]
    · rename_i id off ln cap hs
      obtain ⟨rfl, rfl⟩ := okN_eq h
      refine ⟨rfl, fun ρ a w hx => ⟨_, run a cap w ?_, rfl⟩⟩
      have := hx x
      rw [hs] at this
      obtain ⟨sg, hsg, hv⟩ := this
      rw [hv]
      simp [Builtin.cap_, ht, run_underlying hu]
    · cases h
  · exact genOp_ok o hsel

theorem builtinD_ok {o : Oper} {c : Call} {b : Builtin} (ho : o.op = .call c) (hc : c.callee = .builtin b) {D : Nat} : OpOK P o (builtinD P o b c.args c.argTypes (D := D)) := by
  have hsel : ∀ cs b, o.op ≠ .select cs b := fun cs b h => by rw [ho] at h; cases h
  unfold builtinD
  split
  · rename_i x hx
    split
    · rename_i t ht
      exact capD_ok ho hc hx ht
    · exact OpOK.no
  · rename_i x hx
    exact dataPtr_ok ho hc hx
  · rename_i x y hx
    exact dataText_ok ho hc hx
  · rename_i x hx
    split
    · rename_i t ht
      exact lenD_ok ho hc hx ht
    · exact OpOK.no
  · rename_i x y hx
    exact appendD_ok ho hc hx
  · rename_i x y hx
    exact copyD_ok ho hc hx
  all_goals first | exact OpOK.no | exact genOp_ok o hsel

end Go.CE
