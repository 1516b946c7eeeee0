/- Conversions, pieces of rows, maps. No program is named. -/
import Derived.Test.YtjaklcmadkpmdaaDoorCeK
import Derived.Laws.BytesString
import Derived.Laws.Slices
noncomputable section
namespace Go.CE
open Go

variable {P : Program} {B0 : Nat} {A W W' : Nat → Prop} {ρ ρ' ρ'' : Rho} {m m' m'' : M} {w w' w'' : World}

/-! ### Texts and cells of bytes -/

def u8 (x : Nat) : CV := .int .u8 (.ofNat x)

theorem byteCells_eq {β : Type} (s : List Nat) (k : List CV → β) : byteCells s k = k (s.map u8) := by
  induction s generalizing k with
  | nil => rfl
  | cons x s ih => exact ih fun r => k (.int .u8 (.ofNat x) :: r)

theorem byteOfC_some {β : Type} {c : CV} {bad : β} {k : Nat → β} {r : β} (h : byteOfC c bad k = r) : bad = r ∨ ∃ x, c = u8 x ∧ x ≤ 255 ∧ k x = r := by
  unfold byteOfC at h
  split at h
  · rw [iff_ble] at h
    split at h
    · rename_i x hx; exact .inr ⟨x, rfl, hx, h⟩
    · exact .inl h
  · exact .inl h

theorem cellBytes_ok {β : Type} (bad : β) : ∀ (l : List CV) (k : List Nat → β), cellBytes bad l k = bad ∨ ∃ s, cellBytes bad l k = k s ∧ l = s.map u8 ∧ ∀ c ∈ s, c < 256
  | [], k => .inr ⟨[], rfl, rfl, by simp⟩
  | c :: l, k => by
    have e : cellBytes bad (c :: l) k = byteOfC c bad fun x => cellBytes bad l fun r => k (x :: r) := rfl
    rw [e]
    rcases byteOfC_some (c := c) (bad := bad) (k := fun x => cellBytes bad l fun r => k (x :: r)) rfl with h | ⟨x, hc, hx, h⟩
    · exact .inl h.symm
    · rw [← h]
      rcases cellBytes_ok bad l (fun r => k (x :: r)) with h2 | ⟨s, h2, h3, h4⟩
      · exact .inl h2
      · refine .inr ⟨x :: s, h2, by rw [hc, h3]; rfl, fun c hc' => ?_⟩
        rcases List.mem_cons.1 hc' with rfl | hc'
        · omega
        · exact h4 c hc'

/-- A text's bytes, as cells of the model. -/
def byteVs (s : List Nat) : List Value := (s.map UInt8.ofNat).map fun b => Value.int .u8 b.toNat

/-- And zeros behind them. -/
def byteRow (s : List Nat) (r : Nat) : Array Value := (byteVs s ++ List.replicate r (Value.int .u8 0)).toArray

theorem bytes_cells (ρ : Rho) : ∀ (s : List Nat), (∀ c ∈ s, c < 256) → All2 (CR ρ) (s.map u8) (byteVs s)
  | [], _ => trivial
  | x :: s, h => ⟨by
      show Value.int .u8 ((UInt8.ofNat x).toNat : Int) = .int .u8 (Int.ofNat x)
      rw [UInt8_back (h x (by simp))]; rfl, bytes_cells ρ s fun c hc => h c (by simp [hc])⟩

theorem cells_bytes {vs : List Value} : ∀ {s : List Nat}, All2 (CR ρ) (s.map u8) vs → vs = (s.map Int.ofNat).map (Value.int .u8)
  | [], h => by
    cases vs with
    | nil => rfl
    | cons _ _ => exact h.elim
  | x :: s, h => by
    cases vs with
    | nil => exact h.elim
    | cons v vs =>
      obtain ⟨h1, h2⟩ := h
      have h1 : v = .int .u8 (Int.ofNat x) := h1
      rw [h1, cells_bytes h2]; rfl

theorem push_bytes : ∀ (s : List Nat) (b : ByteArray), (s.map Int.ofNat).foldl (fun r n => r.push (UInt8.ofNat n.toNat)) b = b ++ bytesOf s
  | [], b => by
    apply ByteArray.ext
    simp [bytesOf]
  | x :: s, b => by
    simp only [List.map_cons, List.foldl_cons]
    rw [push_bytes s]
    apply ByteArray.ext
    apply Array.ext'
    simp [bytesOf]

/-! ### Conversions -/

theorem exec_convert {o : Oper} {src dst : TypeId} {x : Operand} (ho : o.op = .convert src dst x) (e : Operand → Value) {y : Value} {w w' : World} (h : (convert src dst (e x)).run P w = .ok y w') : (execOp e o).run P w = .ok (.value y) w' := by
  unfold execOp
  rw [ho]
  simp only [Sem.run_bind, h, Result.andThen_ok, Sem.run_pure]

/-- What a text is made into. -/
theorem run_text_bytes (el : TypeId) (s : List Nat) (w : World) : ∃ r, (Conv.stringToBytes el (bytesOf s)).run P w = .ok (.slice (some ⟨w.heap.size, 0, none⟩) s.length (s.length + r))
    (w.drew.alloc (.cells (byteRow s r) el (s.length + r, s.length + r + 1))) := by
  refine ⟨grownCap w s.length 0 el - s.length, ?_⟩
  have hge := grownCap_ge w s.length 0 el
  have hcap : s.length + (grownCap w s.length 0 el - s.length) = grownCap w s.length 0 el := by omega
  rw [hcap]
  have hsz : (bytesOf s).size = s.length := bytesOf_size s
  have hch : (choose (.appendCap s.length 0 el)).run P w = .ok (grownCap w s.length 0 el) w.drew := by
    rw [run_choose]; rfl
  have hcells : (bytesOf s).data.map (fun b => Value.int .u8 b.toNat) ++ Array.replicate (grownCap w s.length 0 el - s.length) (.int .u8 0) = byteRow s (grownCap w s.length 0 el - s.length) := by
    apply Array.ext'
    simp [bytesOf, byteRow, byteVs]
  simp only [Conv.stringToBytes, hsz, Sem.run_bind, hch, Result.andThen_ok, hcells, run_newRow, markStringish]
  generalize hc : byteRow s (grownCap w s.length 0 el - s.length) = c
  have hcs : c.size = grownCap w s.length 0 el := by rw [← hc]; simp [byteRow, byteVs]; omega
  have hsh : (w.drew.alloc (.cells c el)).shape? w.drew.heap.size = some (el, c.size) := by
    unfold World.shape? World.alloc
    rw [Array.getElem?_push_size]
  simp only [run_shape, hsh, Result.andThen_ok, run_freeze, Sem.run_pure]
  congr 1
  simp only [World.freeze, World.alloc]
  rw [if_neg (by decide)]
  congr 1
  apply Array.ext
  · simp
  · intro i h1 h2
    simp only [Array.getElem_modify, Array.getElem_push]
    have hlt : i < w.heap.size + 1 := by
      have := h2
      rw [Array.size_push] at this
      exact this
    rcases Nat.lt_or_eq_of_le (Nat.le_of_lt_succ hlt) with hi | hi
    · simp [hi, Nat.ne_of_gt hi]
    · subst hi
      simp [hcs]

theorem mark_heap (w : World) {b : Nat} {cs : Array Value} {el : TypeId} {fr : Nat × Nat} (hb : w.heap[b]? = some (.cells cs el fr)) :
    (w.freeze ⟨b, cs.size, none⟩ 1).heap[b]? = some (.cells cs el (if fr.1 == fr.2 then (cs.size, cs.size + 1) else (min fr.1 cs.size, max fr.2 (cs.size + 1)))) ∧ (w.freeze ⟨b, cs.size, none⟩ 1).heap.size = w.heap.size ∧
      (∀ b', b' ≠ b → (w.freeze ⟨b, cs.size, none⟩ 1).heap[b']? = w.heap[b']?) ∧ (w.freeze ⟨b, cs.size, none⟩ 1).tape = w.tape ∧ (w.freeze ⟨b, cs.size, none⟩ 1).os = w.os ∧ (w.freeze ⟨b, cs.size, none⟩ 1).output = w.output := by
  unfold World.freeze
  rw [if_neg (by decide)]
  refine ⟨?_, by simp, fun b' hb' => ?_, rfl, rfl, rfl⟩
  · simp only [Array.getElem?_modify]
    rw [if_pos trivial, hb]
    rfl
  · simp only [Array.getElem?_modify]
    rw [if_neg (fun e => hb' e.symm)]

theorem emp_ok {b : Prop} [Decidable b] (a : Addr) (f : Addr → Addr) (c : Nat) : ∃ a' c', Value.slice (if b then some a else (some a).map f) 0 c = .slice (some a') 0 c' := by
  split <;> exact ⟨_, _, rfl⟩

theorem convertD_ok {o : Oper} {src dst : TypeId} {x : Operand} (ho : o.op = .convert src dst x) {D : Nat} : OpOK P o (convertD P o src dst x (D := D)) := by
  have hsel : ∀ cs b, o.op ≠ .select cs b := fun cs b h => by rw [ho] at h; cases h
  unfold convertD
  split
  · rename_i k0 k hs hd
    refine OpOK.val fun cx e m v m' h => ?_
    have h : convInt k ((evO P x).f e) m = .ok v m' := h
    unfold convInt at h
    split at h
    · rename_i j n hx
      rw [wrapI_eq] at h
      cases h
      refine ⟨rfl, fun ρ a w hv => ⟨.int k (k.wrap n), exec_convert ho _ ?_, rfl⟩⟩
      have := hv x
      rw [hx] at this
      have hxv : a.eval x = .int j n := this
      rw [hxv]
      simp [convert, run_underlying hs, run_underlying hd, Conv.intToInt]
    · cases h
  · rename_i hs hd
    refine OpOK.val fun cx e m v m' h => ?_
    have h : convStr ((evO P x).f e) m = .ok v m' := h
    unfold convStr at h
    split at h
    · rename_i s hx
      cases h
      refine ⟨rfl, fun ρ a w hv => ⟨a.eval x, exec_convert ho _ ?_, by have := hv x; rw [hx] at this; exact this⟩⟩
      have := hv x
      rw [hx] at this
      have hxv : a.eval x = .string (bytesOf s) := this.1
      rw [hxv]
      simp [convert, run_underlying hs, run_underlying hd]
    · cases h
  · rename_i el hs hd
    split
    · rename_i hel hinf
      intro cx e m v m' h B0 A N ρ a w hw hin hr he hf
      have h : convBytes el ((evO P x).f e) m = .ok v m' := h
      unfold convBytes at h
      split at h
      · rename_i s hx
        rw [byteCells_eq, bare_eq] at h
        simp only [num_eq, iff_ble] at h
        split at h
        · rename_i hcap
          obtain ⟨t, h1, h2⟩ := bld_ok topT (lev (s.map u8).length) ((s.map u8).map TV.c) (fun t _ => fresh (.row el (s.map u8).length 1 true 0 (lev (s.map u8).length) t) m (.fail [77]) (okSlc (s.map u8).length (s.map u8).length))
          rw [h1] at h
          rcases fresh_ok h with h | ⟨hnx, h⟩
          · cases h
          · obtain ⟨rfl, rfl⟩ := okSlc_eq h
            have hρ := hf.one rfl
            have hxv := he.eval hr.glob x
            rw [hx] at hxv
            have hxe : a.eval x = .string (bytesOf s) := hxv.1
            obtain ⟨r, hrun⟩ := run_text_bytes (P := P) el s w
            have hlen : (s.map u8).length = s.length := by rw [List.length_map]
            refine ⟨_, _, _, .inl (exec_convert ho _ (by
              rw [hxe]
              simp only [convert, Sem.run_bind, run_underlying hs, run_underlying hd, run_underlying hel, Result.andThen_ok]
              exact hrun)), Done.drew (Done.fresh hw hr.drew hnx hρ (x := r) ⟨_, _, rfl, ?_⟩ ⟨_, ins_self _ _, ?_⟩)⟩
            · have hrow := Row.of_pieces (Pieces.bare (s.map u8)) (d := lev (s.map u8).length) (by rw [List.length_map]; exact lev_ok _ hcap) h2
              refine RowR.new rfl hrow ?_ ?_ (fun h => by cases h) (.inr ?_) _
              · rw [hlen, byteRow, List.take_left' (by simp [byteVs])]
                exact bytes_cells _ s hxv.2
              · simp [byteRow, byteVs]
              · simp [byteRow, byteVs]
            · rw [hlen]; rfl
        · cases h
      · cases h
    · exact OpOK.no
  · rename_i el hs hd
    split
    · rename_i hel
      intro cx e m v m' h B0 A N ρ a w hw hin hr he hf
      have hxv := he.eval hr.glob x
      have h : convText P ((evO P x).f e) m = .ok v m' := h
      unfold convText at h
      split at h
      · rename_i hx
        cases h
        rw [hx] at hxv
        have hxv : a.eval x = .slice none 0 0 := hxv
        refine ⟨_, w, ρ, .inl (exec_convert ho _ (y := .string .empty) ?_), Done.pure hw hr ⟨?_, by simp⟩⟩
        · rw [hxv, run_convert_bytes_string w src dst el none 0 0 hs hel hd]; rfl
        · rfl
      · rename_i hx
        cases h
        rw [hx] at hxv
        obtain ⟨b, q, hv⟩ := hxv
        refine ⟨_, w, ρ, .inl (exec_convert ho _ (y := .string .empty) ?_), Done.pure hw hr ⟨?_, by simp⟩⟩
        · rw [hv, run_convert_bytes_string w src dst el _ _ _ hs hel hd, run_bytesToString w b 0 q [] rfl]; rfl
        · rfl
      · rename_i id off len cap hx
        rw [hx] at hxv
        obtain ⟨sg, hsg, hv⟩ := hxv
        obtain ⟨rm, hrm, hid, h⟩ := look_ok h
        unfold rowCells at h
        split at h
        · rename_i el' n sz opn fz d t hob
          rw [iff_ble] at h
          split at h
          · rename_i hle
            have hle : off + len ≤ n := hle
            -- the row that is read
            have hm : m' = ⟨m.H, m.nx, rm, m.wm, m.dfs⟩ := by
              rcases takeCells_or sz d t len off (RO.fail [81]) (fun l => okStr l ⟨m.H, m.nx, rm, m.wm, m.dfs⟩) with h1 | ⟨l, h1⟩
              · rw [h1] at h; cases h
              · rw [h1] at h
                unfold okStr at h
                rcases cellBytes_ok (RO.fail [82]) l (fun s => .ok (.c (.str s)) ⟨m.H, m.nx, rm, m.wm, m.dfs⟩) with h2 | ⟨s, h2, _⟩ <;> rw [h2] at h <;> cases h
                rfl
            subst hm
            have hat := hr.at hin hsg hid
            rw [hob] at hat
            obtain ⟨c, fr, hb, hrr⟩ := hat
            rcases takeCells_ok hrr.row len off (RO.fail [81]) (fun l => okStr l ⟨m.H, m.nx, rm, m.wm, m.dfs⟩) hle with h1 | ⟨l, h1, hl⟩
            · rw [h1] at h; cases h
            · rw [h1] at h
              unfold okStr at h
              rcases cellBytes_ok (RO.fail [82]) l (fun s => .ok (.c (.str s)) ⟨m.H, m.nx, rm, m.wm, m.dfs⟩) with h2 | ⟨s, h2, h3, h4⟩
              · rw [h2] at h; cases h
              · rw [h2] at h
                cases h
                subst h3
                obtain ⟨vs, hvs, hall⟩ := run_cells (P := P) hb hrr hle hl
                have hvs2 := cells_bytes hall
                have hvs3 : vs = ((s.map Int.ofNat).map (Value.int .u8)).toArray := by rw [← hvs2]
                rw [hvs3] at hvs
                refine ⟨_, w, ρ, .inl (exec_convert ho _ (y := .string (bytesOf s)) ?_), Done.looked hw hr hrm ⟨rfl, h4⟩⟩
                rw [hv, run_convert_bytes_string w src dst el _ _ _ hs hel hd, run_bytesToString w _ len _ (s.map Int.ofNat) hvs, push_bytes]
                congr 2
          · cases h
        · cases h
      · cases h
    · exact OpOK.no
  · rename_i e1 e2 hs hd
    split
    · rename_i hel
      rw [iff_eq]
      split
      · rename_i hsd
        have hsd : src = dst := Nat.eq_of_beq_eq_true hsd
        intro cx e m v m' h B0 A N ρ a w hw hin hr he hf
        have hxv := he.eval hr.glob x
        have h : toSame P ((evO P x).f e) m = .ok v m' := h
        unfold toSame at h
        split at h
        · rename_i id off len cap hx
          rw [hx] at hxv
          obtain ⟨sg, hsg, hxe⟩ := hxv
          obtain ⟨rm, hrm, hid, h⟩ := look_ok h
          unfold sameOb at h
          split at h
          · rename_i el n sz opn fz d tr hob
            rw [iff_eq] at h
            split at h
            · rename_i hz
              have hz := Nat.eq_of_beq_eq_true hz
              rcases turn_ok' h with h5 | ⟨hg, hidx, h5⟩
              · cases h5
              · cases h5
                have hAid : A id := hin id (.inl (Nat.min_le_right _ _))
                have hat' := hr.rows _ _ hsg (.inl hAid)
                rw [hob] at hat'
                obtain ⟨cs, fr, hb, hrr⟩ := hat'
                obtain ⟨f1, f2, f3, f4, f5, f6⟩ := mark_heap w hb
                have hlive : Live m.H id := fun h => by rw [hob] at h; cases h
                refine ⟨_, _, ρ, .inl (exec_convert ho _ (y := .slice (some ⟨sg.blk, sg.base + off, none⟩) len (cap + sg.ext)) (w' := w.freeze ⟨sg.blk, cs.size, none⟩ 1) ?_), ⟨⟨sg, hsg, rfl⟩, (Post.turn hw hr hAid hsg hg hlive _ _ f2 f3 ?_ f4 f5 f6 _ _ _).more (fun i hi => by rw [hi]; exact Nat.min_le_right _ _), Nat.le_trans (Nat.min_le_left _ _) hrm, Nat.min_le_left _ _, rfl⟩⟩
                · rw [hxe, hsd]
                  have hsh : w.shape? sg.blk = some (el, cs.size) := by simp only [World.shape?, hb]
                  simp [convert, run_underlying hd, run_underlying hel, markStringish, hsh]
                · rw [f1]
                  have hhi := hrr.high hz
                  refine ⟨cs, _, rfl, ⟨hrr.cell, hrr.whole, hrr.lev, hrr.mult, hrr.room, hrr.shut, fun i _ hi => ?_, fun h => by rw [hz] at h; simp at h, fun _ => .inr ?_⟩⟩
                  · rw [Bool.and_eq_false_iff]
                    left
                    have := hrr.room
                    by_cases hq : fr.1 = fr.2
                    · simp only [hq, beq_self_eq_true, if_true, decide_eq_false_iff_not]
                      omega
                    · have h2 : (fr.1 == fr.2) = false := by simpa using hq
                      simp only [h2, Bool.false_eq_true, if_false, decide_eq_false_iff_not]
                      rcases hhi with hhi | hhi
                      · exact absurd hhi hq
                      · omega
                  · by_cases hq : fr.1 = fr.2
                    · simp only [hq, beq_self_eq_true, if_true]
                      omega
                    · have h2 : (fr.1 == fr.2) = false := by simpa using hq
                      simp only [h2, Bool.false_eq_true, if_false]
                      rcases hhi with hhi | hhi
                      · exact absurd hhi hq
                      · omega
            · cases h
          · cases h
        · cases h
      · exact OpOK.no
    · exact OpOK.no
  · rename_i t hs hd
    split
    · rename_i sz hS
      intro cx e m v m' h B0 A N ρ a w hw hin hr he hf
      have hxv := he.eval hr.glob x
      have h : toUns P ((evO P x).f e) m = .ok v m' := h
      obtain ⟨i, hi, hisz⟩ : ∃ i, P.info? t = some i ∧ i.size ≠ 0 := by
        unfold sizeT at hS
        split at hS
        · rename_i i hi
          cases hS' : i.size with
          | zero => rw [hS'] at hS; cases hS
          | succ q => exact ⟨i, hi, by rw [hS']; exact Nat.succ_ne_zero _⟩
        · cases hS
      unfold toUns at h
      split at h
      · rename_i hx
        rw [hx] at hxv
        have hxe : a.eval x = .pointer none := hxv
        cases h
        refine ⟨_, w, ρ, .inl (exec_convert ho _ (y := .pointer none) ?_), Done.pure hw hr rfl⟩
        rw [hxe]
        simp [convert, run_underlying hs, run_underlying hd, Conv.unsafePointer]
      · rename_i id off hx
        rw [hx] at hxv
        obtain ⟨sg, hsg, hxe⟩ := hxv
        obtain ⟨rm, hrm, hid, h⟩ := look_ok h
        unfold unsOb at h
        split at h
        · rename_i el n sz' opn fz d tr hob
          rw [iff_ble] at h
          split at h
          · rename_i hlt
            have hlt : off + 1 ≤ n := hlt
            cases h
            have hat := hr.at hin hsg hid
            rw [hob] at hat
            obtain ⟨cs, fr, hb, hrr⟩ := hat
            refine ⟨_, w, ρ, .inl (exec_convert ho _ (y := .pointer (some ⟨sg.blk, sg.base + off, none⟩)) ?_), Done.looked hw hr hrm ⟨sg, hsg, rfl⟩⟩
            rw [hxe]
            refine Lib.run_to_unsafe w _ hs hd hi hisz (e := el) (cells := cs.size) ?_ ?_
            · simp only [World.shape?, hb]
            · have := hrr.room
              have h2 : n ≤ n + sg.ext * sz' := Nat.le_add_right _ _
              show sg.base + off < cs.size
              omega
          · cases h
        · cases h
      · cases h
    · exact OpOK.no
  · rename_i u hs hd
    split
    · rename_i i hi
      intro cx e m v m' h B0 A N ρ a w hw hin hr he hf
      have hxv := he.eval hr.glob x
      have h : fromUns P u ((evO P x).f e) m = .ok v m' := h
      unfold fromUns at h
      split at h
      · rename_i hx
        rw [hx] at hxv
        have hxe : a.eval x = .pointer none := hxv
        cases h
        refine ⟨_, w, ρ, .inl (exec_convert ho _ (y := .pointer none) ?_), Done.pure hw hr rfl⟩
        rw [hxe]
        simp [convert, run_underlying hs, run_underlying hd, Conv.unsafePointer]
      · rename_i id off hx
        rw [hx] at hxv
        obtain ⟨sg, hsg, hxe⟩ := hxv
        obtain ⟨rm, hrm, hid, h⟩ := look_ok h
        unfold backOb at h
        split at h
        · rename_i el n sz' opn fz d tr hob
          rw [iff_eq] at h
          split at h
          · rename_i hc
            simp only [Bool.and_eq_true, Bool.not_eq_true'] at hc
            obtain ⟨ho', hc⟩ := hc
            cases h
            have hat := hr.at hin hsg hid
            rw [hob] at hat
            obtain ⟨cs, fr, hb, hrr⟩ := hat
            obtain ⟨_, hbase, hsize⟩ := hrr.shut ho'
            refine ⟨_, w, ρ, .inl (exec_convert ho _ (y := .pointer (some ⟨sg.blk, sg.base + off, none⟩)) ?_), Done.looked hw hr hrm ⟨sg, hsg, rfl⟩⟩
            rw [hxe]
            refine Lib.run_from_unsafe w _ hs hd hi (e := el) (cells := cs.size) ?_ ?_
            · simp only [World.shape?, hb]
            · simp only [hbase, hsize, Nat.zero_add]
              exact hc
          · cases h
        · cases h
      · cases h
    · exact OpOK.no
  · exact genOp_ok o hsel

/-! ### Pieces of texts and rows -/

/-- A bound, and what the model has in its place. -/
theorem bound_ok {D : Nat} {e : NT D AV} {ev : Operand → Value} (hx : ∀ x, AR ρ ((evO P x).f e) (ev x)) {x : Option Operand} {dflt : Nat} {k : Nat → RO} {v : AV} (h : bound P x dflt e k = .ok v m') :
    ∃ n, k n = .ok v m' ∧ ((x = none ∧ n = dflt) ∨ ∃ y j, x = some y ∧ ev y = .int j (Int.ofNat n)) := by
  cases x with
  | none => exact ⟨dflt, h, .inl ⟨rfl, rfl⟩⟩
  | some y =>
    have h : natOf ((evO P y).f e) (.fail [117]) k = .ok v m' := h
    rcases natOf_ok h with ⟨j, n, hy, h⟩ | h
    · have := hx y
      rw [hy] at this
      exact ⟨n, h, .inr ⟨y, j, rfl, this⟩⟩
    · cases h

theorem run_bound {k : IntKind} {n y : Nat} (h : n ≤ y) (code : BoundsCode) (w : World) : (Instr.sliceBound (.int k (n : Int)) y code).run P w = .ok n w := by
  rw [run_sliceBound w k (n : Int) y code (Int.natCast_nonneg _) (by omega)]; rfl

/-- The bounds of a slice expression. -/
theorem run_bounds {ev : Operand → Value} {lo hi mx : Option Operand} {isSlice : Bool} {len cap l h m : Nat} (hmh : (mx.isSome && hi.isNone) = false)
    (hm : (mx = none ∧ m = cap) ∨ ∃ y j, mx = some y ∧ ev y = .int j (Int.ofNat m)) (hh : (hi = none ∧ h = len) ∨ ∃ y j, hi = some y ∧ ev y = .int j (Int.ofNat h)) (hl : (lo = none ∧ l = 0) ∨ ∃ y j, lo = some y ∧ ev y = .int j (Int.ofNat l))
    (h1 : m ≤ cap) (h2 : h ≤ m) (h3 : l ≤ h) (w : World) : (Instr.sliceBounds isSlice len cap (lo.map ev) (hi.map ev) (mx.map ev)).run P w = .ok (l, h, m) w := by
  unfold Instr.sliceBounds
  rcases hm with ⟨rfl, rfl⟩ | ⟨y, j, rfl, hy⟩
  · rcases hh with ⟨rfl, rfl⟩ | ⟨y, j, rfl, hy⟩
    · rcases hl with ⟨rfl, rfl⟩ | ⟨z, i, rfl, hz⟩
      · simp [Sem.run_pure]
      · simp [hz, run_bound h3]
    · rcases hl with ⟨rfl, rfl⟩ | ⟨z, i, rfl, hz⟩
      · simp [hy, run_bound h2]
      · simp [hz, hy, run_bound h3, run_bound h2]
  · rcases hh with ⟨rfl, rfl⟩ | ⟨y', j', rfl, hy'⟩
    · simp at hmh
    · rcases hl with ⟨rfl, rfl⟩ | ⟨z, i, rfl, hz⟩
      · simp [hy, hy', run_bound h1, run_bound h2]
      · simp [hz, hy, hy', run_bound h3, run_bound h1, run_bound h2]

theorem bytes_cut (s : List Nat) (l h : Nat) : (bytesOf s).extract l h = bytesOf ((s.drop l).take (h - l)) := by
  apply ByteArray.ext
  apply Array.ext'
  simp only [bytesOf, ByteArray.data_extract, Array.toList_extract]
  simp [List.map_take, List.map_drop]

theorem exec_slice {o : Oper} {t : TypeId} {x : Operand} {lo hi mx : Option Operand} (ho : o.op = .slice t x lo hi mx) (e : Operand → Value) {y : Value} {w w' : World} (h : (Instr.sliceAt t (e x) (lo.map e) (hi.map e) (mx.map e)).run P w = .ok y w') :
    (execOp e o).run P w = .ok (.value y) w' := by
  unfold execOp
  rw [ho]
  simp only [Sem.run_bind, h, Result.andThen_ok, Sem.run_pure]

theorem okShut_ok {id off len cap : Nat} {ob : Ob} {v : AV} (h : okShut id off len cap ob m = .ok v m') : m' = m ∧ ((v = .c (.ref (.slc id off len cap)) ∧ ∃ el n sz fz d t, ob = .row el n sz false fz d t) ∨ (v = .c (.ref (.slx id off len cap)) ∧ ∃ el n sz fz d t, ob = .row el n sz true fz d t)) := by
  unfold okShut at h
  split at h
  · rename_i el n sz opn fz d t
    cases opn with
    | true => cases h; exact ⟨rfl, .inr ⟨rfl, _, _, _, _, _, _, rfl⟩⟩
    | false => cases h; exact ⟨rfl, .inl ⟨rfl, _, _, _, _, _, _, rfl⟩⟩
  · cases h

theorem sliceD_ok {o : Oper} {t : TypeId} {x : Operand} {lo hi mx : Option Operand} (ho : o.op = .slice t x lo hi mx) {D : Nat} : OpOK P o (sliceD P t x lo hi mx (D := D)) := by
  unfold sliceD
  rw [iff_eq]
  split
  · exact OpOK.no
  rename_i hmh
  have hmh : (mx.isSome && hi.isNone) = false := by rwa [Bool.not_eq_true] at hmh
  split
  · rename_i hu
    split
    · refine OpOK.val' fun cx e m v m' h ρ a w hx => ?_
      have h : slStr P lo hi e ((evO P x).f e) m = .ok v m' := h
      unfold slStr at h
      split at h
      · rename_i s hs
        rw [num_eq] at h
        obtain ⟨hn, h, hhi⟩ := bound_ok hx h
        obtain ⟨ln, h, hlo⟩ := bound_ok hx h
        rw [iff_eq] at h
        split at h
        · rename_i hc
          simp only [Bool.and_eq_true, ble_iff] at hc
          unfold cut at h
          rw [forceStr_eq] at h
          cases h
          refine ⟨rfl, .string (bytesOf ((s.drop ln).take (hn - ln))), exec_slice ho _ ?_, rfl, fun c hc' => ?_⟩
          · have := hx x
            rw [hs] at this
            have hv : a.eval x = .string (bytesOf s) := this.1
            have hb := run_bounds (P := P) (isSlice := false) (len := s.length) (cap := s.length) (m := s.length) (mx := none) (ev := a.eval) (by rfl) (.inl ⟨rfl, rfl⟩) hhi hlo (Nat.le_refl _) hc.1 hc.2 w
            rw [hv]
            simp only [Instr.sliceAt, Sem.run_bind, run_underlying hu, Result.andThen_ok, Instr.slice, Option.map_none, Option.isSome_none, Bool.false_eq_true, if_false, bytesOf_size]
            simp only [Option.map_none] at hb
            simp only [hb, Sem.run_pure, Result.andThen_ok, bytes_cut]
          · have := hx x
            rw [hs] at this
            exact this.2 c (List.mem_of_mem_drop (List.mem_of_mem_take hc'))
        · cases h
      · cases h
    · exact OpOK.no
  · rename_i elem hu
    split
    · rename_i s hS
      intro cx e m v m' h B0 A N ρ a w hw hin hr he hf
      have hx : ∀ y, AR ρ ((evO P y).f e) (a.eval y) := fun y => he.eval hr.glob y
      have hxv := hx x
      have run : ∀ (ao : Option Addr) (len cap l hn mm : Nat), a.eval x = .slice ao len cap → (Instr.sliceBounds true len cap (lo.map a.eval) (hi.map a.eval) (mx.map a.eval)).run P w = .ok (l, hn, mm) w →
          (execOp a.eval o).run P w = .ok (.value (.slice (if mm = l then ao else ao.map (·.add (l * s))) (hn - l) (mm - l))) w := fun ao len cap l hn mm hv hb => by
        refine exec_slice ho _ ?_
        rw [hv]
        simp only [Instr.sliceAt, Sem.run_bind, run_underlying hu, Result.andThen_ok, Instr.slice, hb, run_sizeT hS, Sem.run_pure]
      have h : slSlc P s lo hi mx e ((evO P x).f e) m = .ok v m' := h
      unfold slSlc at h
      split at h
      · rename_i id off len cap hxe
        rw [hxe] at hxv
        obtain ⟨sg, hsg, hv⟩ := hxv
        rw [iff_eq] at h
        split at h
        · rename_i hcap
          obtain ⟨y, hmy, hy⟩ : ∃ y, mx = some y ∧ (evO P y).f e = .c (.ref (.capv id cap)) := by
            clear h hmh run
            unfold isCapOf at hcap
            cases mx with
            | none => cases hcap
            | some y =>
              simp only at hcap
              split at hcap
              · rename_i i c hyv
                simp only [Bool.and_eq_true] at hcap
                have h1 := Nat.eq_of_beq_eq_true hcap.1
                have h2 := Nat.eq_of_beq_eq_true hcap.2
                subst h1; subst h2
                exact ⟨y, rfl, hyv⟩
              · cases hcap
          have hyv := hx y
          rw [hy] at hyv
          obtain ⟨sg', hsg', hye⟩ := hyv
          rw [hsg] at hsg'; cases hsg'
          obtain ⟨hn, h, hhi⟩ := bound_ok hx h
          obtain ⟨ln, h, hlo⟩ := bound_ok hx h
          unfold slCut at h
          rw [iff_eq] at h
          have room : hn ≤ cap → ln ≤ hn → (Instr.sliceBounds true len (cap + sg.ext) (lo.map a.eval) (hi.map a.eval) (mx.map a.eval)).run P w = .ok (ln, hn, cap + sg.ext) w := fun h2 h3 =>
            run_bounds hmh (.inr ⟨y, .i64, hmy, hye⟩) hhi hlo (Nat.le_refl _) (by omega) h3 w
          split at h
          · rename_i hc
            simp only [Bool.and_eq_true, ble_iff] at hc
            obtain ⟨⟨⟨h1, h2⟩, h3⟩, h4⟩ := hc
            have h4 : ln + 1 ≤ cap := h4
            simp only [num_eq] at h
            cases h
            refine ⟨_, w, ρ, .inl (run _ _ _ ln hn (cap + sg.ext) hv (room h2 h3)), Done.pure hw hr ⟨sg, hsg, ?_⟩⟩
            rw [if_neg (by omega)]
            simp only [Option.map_some, Addr.add_plain, Nat.add_assoc]
            show Value.slice (some ⟨sg.blk, sg.base + (off + ln * s), none⟩) (hn - ln) (cap + sg.ext - ln) = .slice (some ⟨sg.blk, sg.base + (off + ln * s), none⟩) (hn - ln) (cap - ln + sg.ext)
            rw [show cap + sg.ext - ln = cap - ln + sg.ext by omega]
          · rw [iff_eq] at h
            split at h
            · rename_i hc
              simp only [Bool.and_eq_true, ble_iff] at hc
              obtain ⟨⟨⟨h1, h2⟩, h3⟩, h4⟩ := hc
              have h3 : ln = hn := Nat.eq_of_beq_eq_true h3
              cases h
              have hz : hn - ln = 0 := by omega
              refine ⟨_, w, ρ, .inl (run _ _ _ ln hn _ hv (room h1 (by omega))), Done.pure hw hr ?_⟩
              rw [hz]
              exact emp_ok _ _ _
            · cases h
        obtain ⟨cn, h, hmx⟩ := bound_ok hx h
        obtain ⟨hn, h, hhi⟩ := bound_ok hx h
        obtain ⟨ln, h, hlo⟩ := bound_ok hx h
        unfold slCut at h
        rw [iff_eq] at h
        -- the room that the model has
        have room : ∀ mm, mm = (if mx.isSome then cn else cap + sg.ext) → cn ≤ cap → hn ≤ cn → ln ≤ hn → (Instr.sliceBounds true len (cap + sg.ext) (lo.map a.eval) (hi.map a.eval) (mx.map a.eval)).run P w = .ok (ln, hn, mm) w := fun mm hmm h1 h2 h3 => by
          rcases hmx with ⟨rfl, rfl⟩ | ⟨y, j, rfl, hy⟩
          · have : mm = cn + sg.ext := hmm
            exact run_bounds hmh (.inl ⟨rfl, this⟩) hhi hlo (by omega) (by omega) h3 w
          · have : mm = cn := hmm
            subst this
            exact run_bounds hmh (.inr ⟨y, j, rfl, hy⟩) hhi hlo (by omega) h2 h3 w
        split at h
        · rename_i hc
          simp only [Bool.and_eq_true, ble_iff] at hc
          obtain ⟨⟨⟨h1, h2⟩, h3⟩, h4⟩ := hc
          have h4 : ln + 1 ≤ cn := h4
          simp only [num_eq] at h
          split at h
          · rename_i hxm
            cases h
            have hcn : cn = cap := by
              rcases hmx with ⟨_, rfl⟩ | ⟨y, j, hy, _⟩
              · rfl
              · cases hy
            refine ⟨_, w, ρ, .inl (run _ _ _ ln hn (cap + sg.ext) hv (room _ (by simp) h1 h2 h3)), Done.pure hw hr ⟨sg, hsg, ?_⟩⟩
            rw [if_neg (by omega)]
            simp only [Option.map_some, Addr.add_plain, Nat.add_assoc]
            show Value.slice (some ⟨sg.blk, sg.base + (off + ln * s), none⟩) (hn - ln) (cap + sg.ext - ln) = .slice (some ⟨sg.blk, sg.base + (off + ln * s), none⟩) (hn - ln) (cn - ln + sg.ext)
            rw [show cap + sg.ext - ln = cn - ln + sg.ext by omega]
          · rename_i y hxm
            obtain ⟨rm, hrm, hid, h⟩ := look_ok h
            obtain ⟨hm', hres⟩ := okShut_ok h
            clear h
            subst hm'
            rcases hres with ⟨rfl, el, n, sz, fz, d, tr, hob⟩ | ⟨rfl, el, n, sz, fz, d, tr, hob⟩
            · have hat := hr.at hin hsg hid
              rw [hob] at hat
              obtain ⟨cs, fr, hb, hrr⟩ := hat
              have hext := (hrr.shut rfl).1
              refine ⟨_, w, ρ, .inl (run _ _ _ ln hn cn hv (room _ (by simp) h1 h2 h3)), Done.looked hw hr hrm ⟨sg, hsg, ?_⟩⟩
              rw [if_neg (by omega)]
              simp only [Option.map_some, Addr.add_plain, Nat.add_assoc, hext, Nat.add_zero]
              rfl
            · refine ⟨_, w, ρ, .inl (run _ _ _ ln hn cn hv (room _ (by simp) h1 h2 h3)), Done.looked hw hr hrm ⟨sg, hsg, ?_⟩⟩
              rw [if_neg (by omega)]
              simp only [Option.map_some, Addr.add_plain, Nat.add_assoc]
              rfl
        · rw [iff_eq] at h
          split at h
          · rename_i hc
            simp only [Bool.and_eq_true, ble_iff] at hc
            obtain ⟨⟨⟨h1, h2⟩, h3⟩, h4⟩ := hc
            have h3 : ln = hn := Nat.eq_of_beq_eq_true h3
            have hz : hn - ln = 0 := by omega
            split at h
            · cases h
              refine ⟨_, w, ρ, .inl (run _ _ _ ln hn _ hv (room _ rfl h2 h1 (by omega))), Done.pure hw hr ?_⟩
              rw [hz]
              exact emp_ok _ _ _
            · cases h
              refine ⟨_, w, ρ, .inl (run _ _ _ ln hn cn hv (room _ (by simp) h2 h1 (by omega))), Done.pure hw hr ?_⟩
              have h4 : ln = cn := Nat.eq_of_beq_eq_true h4
              rw [hz, if_pos h4.symm, h4, Nat.sub_self]
              exact ⟨_, rfl⟩
          · cases h
      · rename_i hxe
        rw [hxe] at hxv
        have hxv : a.eval x = .slice none 0 0 := hxv
        obtain ⟨cn, h, hmx⟩ := bound_ok hx h
        obtain ⟨hn, h, hhi⟩ := bound_ok hx h
        obtain ⟨ln, h, hlo⟩ := bound_ok hx h
        rw [iff_eq] at h
        split at h
        · rename_i hc
          simp only [Bool.and_eq_true] at hc
          have h1 : cn = 0 := Nat.eq_of_beq_eq_true hc.1.1
          have h2 : hn = 0 := Nat.eq_of_beq_eq_true hc.1.2
          have h3 : ln = 0 := Nat.eq_of_beq_eq_true hc.2
          cases h
          rw [h1] at hmx; rw [h2] at hhi; rw [h3] at hlo
          exact ⟨_, w, ρ, .inl (run none 0 0 0 0 0 hxv (run_bounds hmh hmx hhi hlo (Nat.le_refl _) (Nat.le_refl _) (Nat.le_refl _) w)), Done.pure hw hr rfl⟩
        · cases h
      · rename_i hxe
        rw [hxe] at hxv
        obtain ⟨b, q, hxv⟩ := hxv
        split at h
        · obtain ⟨hn, h, hhi⟩ := bound_ok hx h
          obtain ⟨ln, h, hlo⟩ := bound_ok hx h
          rw [iff_eq] at h
          split at h
          · rename_i hc
            simp only [Bool.and_eq_true] at hc
            have h2 : hn = 0 := Nat.eq_of_beq_eq_true hc.1
            have h3 : ln = 0 := Nat.eq_of_beq_eq_true hc.2
            cases h
            rw [h2] at hhi; rw [h3] at hlo
            refine ⟨_, w, ρ, .inl (run (some b) 0 q 0 0 q hxv (run_bounds hmh (.inl ⟨rfl, rfl⟩) hhi hlo (Nat.le_refl _) (Nat.zero_le _) (Nat.le_refl _) w)), Done.pure hw hr (emp_ok _ _ _)⟩
          · cases h
        · cases h
      · rename_i id off len cap hxe
        rw [hxe] at hxv
        obtain ⟨sg, hsg, hv⟩ := hxv
        obtain ⟨cn, h, hmx⟩ := bound_ok hx h
        obtain ⟨hn, h, hhi⟩ := bound_ok hx h
        obtain ⟨ln, h, hlo⟩ := bound_ok hx h
        unfold slxCut at h
        rw [iff_eq] at h
        split at h
        · rename_i hc
          simp only [Bool.and_eq_true, ble_iff] at hc
          obtain ⟨⟨⟨h1, h2⟩, h3⟩, h4⟩ := hc
          have h4 : ln + 1 ≤ cn := h4
          simp only [num_eq] at h
          cases h
          refine ⟨_, w, ρ, .inl (run _ _ _ ln hn cn hv (run_bounds hmh hmx hhi hlo h1 h2 h3 w)), Done.pure hw hr ⟨sg, hsg, ?_⟩⟩
          rw [if_neg (by omega)]
          simp only [Option.map_some, Addr.add_plain, Nat.add_assoc]
          rfl
        · rw [iff_eq] at h
          split at h
          · rename_i hc
            simp only [Bool.and_eq_true, ble_iff] at hc
            obtain ⟨⟨⟨h1, h2⟩, h3⟩, h4⟩ := hc
            have h3 : ln = hn := Nat.eq_of_beq_eq_true h3
            have h4 : ln = cn := Nat.eq_of_beq_eq_true h4
            have hz : hn - ln = 0 := by omega
            cases h
            refine ⟨_, w, ρ, .inl (run _ _ _ ln hn cn hv (run_bounds hmh hmx hhi hlo h2 h1 (by omega) w)), Done.pure hw hr ?_⟩
            rw [hz, if_pos h4.symm, h4, Nat.sub_self]
            exact ⟨_, rfl⟩
          · cases h
      · rename_i hxe
        rw [hxe] at hxv
        obtain ⟨b, hxv⟩ := hxv
        obtain ⟨cn, h, hmx⟩ := bound_ok hx h
        obtain ⟨hn, h, hhi⟩ := bound_ok hx h
        obtain ⟨ln, h, hlo⟩ := bound_ok hx h
        rw [iff_eq] at h
        split at h
        · rename_i hc
          simp only [Bool.and_eq_true] at hc
          have h1 : cn = 0 := Nat.eq_of_beq_eq_true hc.1.1
          have h2 : hn = 0 := Nat.eq_of_beq_eq_true hc.1.2
          have h3 : ln = 0 := Nat.eq_of_beq_eq_true hc.2
          cases h
          rw [h1] at hmx; rw [h2] at hhi; rw [h3] at hlo
          exact ⟨_, w, ρ, .inl (run (some b) 0 0 0 0 0 hxv (run_bounds hmh hmx hhi hlo (Nat.le_refl _) (Nat.le_refl _) (Nat.le_refl _) w)), Done.pure hw hr ⟨_, rfl⟩⟩
        · cases h
      · cases h
    · exact OpOK.no
  · rename_i n elem hu
    split
    · rename_i s hS
      intro cx e m v m' h B0 A N ρ a w hw hin hr he hf
      have hx : ∀ y, AR ρ ((evO P y).f e) (a.eval y) := fun y => he.eval hr.glob y
      have hxv := hx x
      have h : slArr P n s lo hi mx e ((evO P x).f e) m = .ok v m' := h
      unfold slArr at h
      split at h
      · rename_i id off hxe
        rw [hxe] at hxv
        obtain ⟨sg, hsg, hv⟩ := hxv
        obtain ⟨cn, h, hmx⟩ := bound_ok hx h
        obtain ⟨hn, h, hhi⟩ := bound_ok hx h
        obtain ⟨ln, h, hlo⟩ := bound_ok hx h
        rw [iff_eq] at h
        split at h
        · rename_i hc
          simp only [Bool.and_eq_true, ble_iff] at hc
          obtain ⟨⟨⟨h1, h2⟩, h3⟩, h4⟩ := hc
          have h4 : ln + 1 ≤ cn := h4
          simp only [num_eq] at h
          obtain ⟨rm, hrm, hid, h⟩ := look_ok h
          obtain ⟨hm', hres⟩ := okShut_ok h
          clear h
          subst hm'
          have hb := run_bounds (P := P) (isSlice := false) (len := n) (cap := n) hmh hmx hhi hlo h1 h2 h3 w
          have hex : (execOp a.eval o).run P w = .ok (.value (.slice (some ⟨sg.blk, sg.base + (off + ln * s), none⟩) (hn - ln) (cn - ln))) w := by
            refine exec_slice ho _ ?_
            rw [hv]
            simp only [Instr.sliceAt, Sem.run_bind, run_underlying hu, Result.andThen_ok, Instr.sureAddr, Sem.run_pure, hb, run_sizeT hS]
            rw [if_neg (by omega), Addr.add_plain, Nat.add_assoc]
          rcases hres with ⟨rfl, el, n', sz, fz, d, tr, hob⟩ | ⟨rfl, el, n', sz, fz, d, tr, hob⟩
          · have hat := hr.at hin hsg hid
            rw [hob] at hat
            obtain ⟨cs, fr, hb, hrr⟩ := hat
            have hext := (hrr.shut rfl).1
            refine ⟨_, w, ρ, .inl hex, Done.looked hw hr hrm ⟨sg, hsg, ?_⟩⟩
            rw [hext, Nat.add_zero]; rfl
          · exact ⟨_, w, ρ, .inl hex, Done.looked hw hr hrm ⟨sg, hsg, rfl⟩⟩
        · cases h
      · cases h
    · exact OpOK.no
  · exact OpOK.no

end Go.CE
