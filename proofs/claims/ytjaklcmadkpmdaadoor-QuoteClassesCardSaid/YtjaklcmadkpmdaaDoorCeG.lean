/- Operations that touch no memory. No program is named. -/
import Derived.Test.YtjaklcmadkpmdaaDoorCeF
import Derived.Laws.CopyRow
noncomputable section
namespace Go.CE
open Go

variable {P : Program} {B0 : Nat} {A W W' : Nat → Prop} {ρ ρ' ρ'' : Rho} {m m' m'' : M} {w w' w'' : World}

/-! ### A value out of what is there -/

/-- An operation that makes a value, and turns nothing. -/
theorem OpOK.val {o : Oper} {D : Nat} {f : OpF D}
    (h : ∀ (c : Ctx) (e : NT D AV) (m : M) (v : AV) (m' : M), f.f c e m = .ok v m' → m' = m ∧ ∀ (ρ : Rho) (a : Act) (w : World), (∀ x, AR ρ ((evO P x).f e) (a.eval x)) → ∃ x, (execOp a.eval o).run P w = .ok (.value x) w ∧ AR ρ v x) : OpOK P o f := by
  intro c e m v m' hf B0 A N ρ a w hw _ hr he _
  obtain ⟨rfl, hx⟩ := h c e m v m' hf
  obtain ⟨x, hrun, hv⟩ := hx ρ a w fun x => he.eval hr.glob x
  exact ⟨x, w, ρ, .inl hrun, Done.pure hw hr hv⟩

theorem OpOK.val' {o : Oper} {D : Nat} {f : OpF D}
    (h : ∀ (c : Ctx) (e : NT D AV) (m : M) (v : AV) (m' : M), f.f c e m = .ok v m' → ∀ (ρ : Rho) (a : Act) (w : World), (∀ x, AR ρ ((evO P x).f e) (a.eval x)) → m' = m ∧ ∃ x, (execOp a.eval o).run P w = .ok (.value x) w ∧ AR ρ v x) : OpOK P o f := by
  intro c e m v m' hf B0 A N ρ a w hw _ hr he _
  obtain ⟨rfl, x, hrun, hv⟩ := h c e m v m' hf ρ a w fun x => he.eval hr.glob x
  exact ⟨x, w, ρ, .inl hrun, Done.pure hw hr hv⟩

theorem moveD_ok {o : Oper} {x : Operand} (ho : o.op = .move x ∨ o.op = .assign x) {D : Nat} : OpOK P o (moveD P x (D := D)) := by
  refine OpOK.val fun c e m v m' h => ?_
  have h : forceA ((evO P x).f e) m = .ok v m' := h
  rw [forceA_eq] at h
  cases h
  refine ⟨rfl, fun ρ a w hx => ⟨a.eval x, ?_, hx x⟩⟩
  unfold execOp
  rcases ho with ho | ho <;> rw [ho] <;> rfl

theorem pickD_ok {o : Oper} {c x y : Operand} (ho : o.op = .pick c x y) {D : Nat} : OpOK P o (pickD P c x y (D := D)) := by
  refine OpOK.val fun cx e m v m' h => ?_
  have h : pickA ((evO P c).f e) ((evO P x).f e) ((evO P y).f e) m = .ok v m' := h
  unfold pickA at h
  split at h
  · rename_i b hb
    rw [forceA_eq, forceA_eq] at h
    have hm : m' = m := by cases b <;> (cases h; rfl)
    refine ⟨hm, fun ρ a w hx => ?_⟩
    have hc := hx c
    rw [hb] at hc
    have hc : a.eval c = .bool b := hc
    unfold execOp
    rw [ho]
    simp only [hc, asBool, Sem.run_bind, Sem.run_pure, Result.andThen_ok]
    cases b with
    | true => cases h; exact ⟨_, rfl, hx x⟩
    | false => cases h; exact ⟨_, rfl, hx y⟩
  · cases h

theorem nilCheckD_ok {o : Oper} {x : Operand} (ho : o.op = .nilCheck x) {D : Nat} : OpOK P o (nilCheckD P x (D := D)) := by
  refine OpOK.val fun cx e m v m' h => ?_
  have h : nilCheckA ((evO P x).f e) m = .ok v m' := h
  unfold nilCheckA at h
  split at h <;> cases h <;> refine ⟨rfl, fun ρ a w hx => ⟨a.eval x, ?_, ?_⟩⟩
  all_goals
    rename_i hxe
    have hv := hx x
    rw [hxe] at hv
  · unfold execOp; rw [ho]; obtain ⟨s, _, hv⟩ := hv; simp only [hv]; rfl
  · exact hv
  · unfold execOp; rw [ho]; obtain ⟨p, q, hv, _⟩ := hv; simp only [hv]; rfl
  · exact hv
  · unfold execOp; rw [ho]; obtain ⟨s, _, hv⟩ := hv; simp only [hv]; rfl
  · exact hv

theorem unD_ok {o : Oper} {op : UnOp} {t : TypeId} {x : Operand} (ho : o.op = .unOp op t x) {D : Nat} : OpOK P o (unD P o op x (D := D)) := by
  have hsel : ∀ cs b, o.op ≠ .select cs b := fun cs b h => by rw [ho] at h; cases h
  unfold unD
  split
  · refine OpOK.val fun cx e m v m' h => ?_
    have h : notA ((evO P x).f e) m = .ok v m' := h
    unfold notA at h
    split at h
    · rename_i b hb
      have h : iff b (RO.ok (.c (.bool false)) m) (.ok (.c (.bool true)) m) = .ok v m' := h
      have hm : m' = m ∧ v = .c (.bool !b) := by cases b <;> (cases h; exact ⟨rfl, rfl⟩)
      obtain ⟨rfl, rfl⟩ := hm
      refine ⟨rfl, fun ρ a w hx => ⟨.bool !b, ?_, rfl⟩⟩
      have hc := hx x
      rw [hb] at hc
      have hc : a.eval x = .bool b := hc
      unfold execOp
      rw [ho]
      simp only [hc, Op.unary]
      rfl
    · cases h
  · exact genOp_ok o hsel

theorem extractD_ok {o : Oper} {x : Operand} {i : Nat} (ho : o.op = .extract x i) {D : Nat} : OpOK P o (extractD P x i (D := D)) := by
  refine OpOK.val fun cx e m v m' h => ?_
  have h : extractA i ((evO P x).f e) m = .ok v m' := h
  unfold extractA at h
  split at h
  · rename_i l hl
    rw [nthT_eq] at h
    split at h
    · rename_i t ht
      cases h
      refine ⟨rfl, fun ρ a w hx => ?_⟩
      have hv := hx x
      rw [hl] at hv
      obtain ⟨vs, hv, ha⟩ := hv
      obtain ⟨y, hy, hty⟩ := ha.get i t ht
      rw [Array.getElem?_toList] at hy
      refine ⟨y, ?_, TR.av hty⟩
      unfold execOp
      rw [ho]
      simp only [hv, Instr.extract, hy]
      rfl
    · cases h
  · cases h

/-- Parts of structs. -/
theorem fieldD_ok {o : Oper} {t : TypeId} {x : Operand} {f : Nat} (ho : o.op = .field t x f) {D : Nat} : OpOK P o (fieldD P t x f (D := D)) := by
  unfold fieldD
  split
  · rename_i fields hu
    split
    · rename_i fd hfd
      unfold fieldF
      split
      · rename_i agg s ha hs
        rw [iff_eq]
        split
        · rename_i h1
          have h1 : agg = true ∨ s = 1 := by
            rcases Bool.or_eq_true _ _ ▸ h1 with h | h
            · exact .inl h
            · exact .inr (Nat.eq_of_beq_eq_true h)
          refine OpOK.val fun cx e m v m' h => ?_
          have h : fieldA agg fd.offset s ((evO P x).f e) m = .ok v m' := h
          unfold fieldA at h
          split at h
          · rename_i l hl
            rw [sub_eq] at h
            split at h
            · rename_i hlen
              obtain ⟨rfl, hv⟩ := ofCells_ok h
              refine ⟨rfl, fun ρ a w hx => ?_⟩
              have hxv := hx x
              rw [hl] at hxv
              obtain ⟨vs, hvs, hall⟩ := hxv
              obtain ⟨y, hy, hty⟩ := part_ok ha hs h1 hall hlen w
              refine ⟨y, ?_, hty.av hv⟩
              unfold execOp
              rw [ho]
              simp only [Instr.field, Sem.run_bind, run_underlying hu, Result.andThen_ok, hfd, hvs, asAgg, Sem.run_pure, hy]
            · cases h
          · cases h
        · exact OpOK.no
      · exact OpOK.no
    · exact OpOK.no
  · exact OpOK.no

theorem Addr.add_plain (b o n : Nat) : (⟨b, o, none⟩ : Addr).add n = ⟨b, o + n, none⟩ := by
  unfold Addr.add
  split
  · rename_i h; subst h; rfl
  · rfl

theorem fieldAddrD_ok {o : Oper} {t : TypeId} {x : Operand} {f : Nat} (ho : o.op = .fieldAddr t x f) {D : Nat} : OpOK P o (fieldAddrD P t x f (D := D)) := by
  unfold fieldAddrD
  split
  · rename_i fields hu
    split
    · rename_i fd hfd
      unfold fieldAddrF
      split
      · rename_i s hs
        refine OpOK.val fun cx e m v m' h => ?_
        have h : fieldAt fd.offset ((evO P x).f e) m = .ok v m' := h
        unfold fieldAt at h
        split at h
        · rename_i id off hid
          rw [num_eq] at h
          cases h
          refine ⟨rfl, fun ρ a w hx => ?_⟩
          have hxv := hx x
          rw [hid] at hxv
          obtain ⟨sg, hsg, hv⟩ := hxv
          refine ⟨.pointer (some ⟨sg.blk, sg.base + (off + fd.offset), none⟩), ?_, sg, hsg, rfl⟩
          unfold execOp
          rw [ho]
          simp only [Instr.fieldAt, Sem.run_bind, run_underlying hu, Result.andThen_ok, hfd, hv, Instr.sureAddr, Sem.run_pure, fieldPlace, run_sizeT hs]
          rw [if_neg (by omega)]
          simp only [Sem.run_pure, Result.andThen_ok, Addr.add_plain, Nat.add_assoc]
        · cases h
      · exact OpOK.no
    · exact OpOK.no
  · exact OpOK.no

theorem natOf_ok {v : AV} {bad : RO} {k : Nat → RO} {r : RO} (h : natOf v bad k = r) : (∃ j n, v = .c (.int j (.ofNat n)) ∧ k n = r) ∨ bad = r := by
  cases v with
  | c c => cases c with
    | int j n => cases n with
      | ofNat n => exact .inl ⟨j, n, rfl, h⟩
      | negSucc n => exact .inr h
    | _ => exact .inr h
  | _ => exact .inr h

theorem indexAddrD_ok {o : Oper} {t : TypeId} {x i : Operand} (ho : o.op = .indexAddr t x i) {D : Nat} : OpOK P o (indexAddrD P t x i (D := D)) := by
  unfold indexAddrD
  split
  · rename_i elem hu
    split
    · rename_i es hs
      refine OpOK.val fun cx e m v m' h => ?_
      have h : idxSlc es ((evO P x).f e) ((evO P i).f e) m = .ok v m' := h
      unfold idxSlc at h
      split at h
      · rename_i id off len cap hxe
        rcases natOf_ok h with ⟨j, n, hie, h1⟩ | h1
        · unfold addrN at h1
          rw [iff_ble] at h1
          split at h1
          · rename_i hlt
            rw [num_eq] at h1
            cases h1
            refine ⟨rfl, fun ρ a w hx => ?_⟩
            have hxv := hx x
            rw [hxe] at hxv
            obtain ⟨sg, hsg, hv⟩ := hxv
            have hiv := hx i
            rw [hie] at hiv
            have hiv : a.eval i = .int j (Int.ofNat n) := hiv
            refine ⟨.pointer (some ⟨sg.blk, sg.base + (off + n * es), none⟩), ?_, sg, hsg, rfl⟩
            unfold execOp
            rw [ho]
            have hin : 0 ≤ Int.ofNat n ∧ Int.ofNat n < (len : Int) := ⟨Int.natCast_nonneg n, by show (n : Int) < len; omega⟩
            simp only [Instr.indexAt, hiv, hv, asIntOf, Sem.run_bind, Sem.run_pure, run_underlying hu, Result.andThen_ok, hin, and_self, if_true, run_sizeT hs, Addr.add_plain, Nat.add_assoc]
            rfl
          · cases h1
        · cases h1
      · rename_i id off len cap hxe
        rcases natOf_ok h with ⟨j, n, hie, h1⟩ | h1
        · unfold addrN at h1
          rw [iff_ble] at h1
          split at h1
          · rename_i hlt
            rw [num_eq] at h1
            cases h1
            refine ⟨rfl, fun ρ a w hx => ?_⟩
            have hxv := hx x
            rw [hxe] at hxv
            obtain ⟨sg, hsg, hv⟩ := hxv
            have hiv := hx i
            rw [hie] at hiv
            have hiv : a.eval i = .int j (Int.ofNat n) := hiv
            refine ⟨.pointer (some ⟨sg.blk, sg.base + (off + n * es), none⟩), ?_, sg, hsg, rfl⟩
            unfold execOp
            rw [ho]
            have hin : 0 ≤ Int.ofNat n ∧ Int.ofNat n < (len : Int) := ⟨Int.natCast_nonneg n, by show (n : Int) < len; omega⟩
            simp only [Instr.indexAt, hiv, hv, asIntOf, Sem.run_bind, Sem.run_pure, run_underlying hu, Result.andThen_ok, hin, and_self, if_true, run_sizeT hs, Addr.add_plain, Nat.add_assoc]
            rfl
          · cases h1
        · cases h1
      · cases h
    · exact OpOK.no
  · rename_i len elem hu
    split
    · rename_i es hs
      refine OpOK.val fun cx e m v m' h => ?_
      have h : idxArr len es ((evO P x).f e) ((evO P i).f e) m = .ok v m' := h
      unfold idxArr at h
      split at h
      · rename_i id off hxe
        rcases natOf_ok h with ⟨j, n, hie, h1⟩ | h1
        · unfold addrN at h1
          rw [iff_ble] at h1
          split at h1
          · rename_i hlt
            rw [num_eq] at h1
            cases h1
            refine ⟨rfl, fun ρ a w hx => ?_⟩
            have hxv := hx x
            rw [hxe] at hxv
            obtain ⟨sg, hsg, hv⟩ := hxv
            have hiv := hx i
            rw [hie] at hiv
            have hiv : a.eval i = .int j (Int.ofNat n) := hiv
            refine ⟨.pointer (some ⟨sg.blk, sg.base + (off + n * es), none⟩), ?_, sg, hsg, rfl⟩
            unfold execOp
            rw [ho]
            have hin : 0 ≤ Int.ofNat n ∧ Int.ofNat n < (len : Int) := ⟨Int.natCast_nonneg n, by show (n : Int) < len; omega⟩
            simp only [Instr.indexAt, hiv, hv, asIntOf, Instr.sureAddr, Sem.run_bind, Sem.run_pure, run_underlying hu, Result.andThen_ok, hin, and_self, if_true, run_sizeT hs, Addr.add_plain, Nat.add_assoc]
            rfl
          · cases h1
        · cases h1
      · cases h
    · exact OpOK.no
  · exact OpOK.no

theorem indexD_ok {o : Oper} {t : TypeId} {x i : Operand} (ho : o.op = .index t x i) {D : Nat} : OpOK P o (indexD P t x i (D := D)) := by
  unfold indexD
  split
  · rename_i hu
    refine OpOK.val fun cx e m v m' h => ?_
    have h : idxStr ((evO P x).f e) ((evO P i).f e) m = .ok v m' := h
    unfold idxStr at h
    split at h
    · rename_i s hxe
      rcases natOf_ok h with ⟨j, n, hie, h1⟩ | h1
      · rw [nth_eq] at h1
        split at h1
        · rename_i b hb
          cases h1
          refine ⟨rfl, fun ρ a w hx => ?_⟩
          have hxv := hx x
          rw [hxe] at hxv
          have hv : a.eval x = .string (bytesOf s) := hxv.1
          have hlt := hxv.2 b (List.mem_of_getElem? hb)
          have hiv := hx i
          rw [hie] at hiv
          have hiv : a.eval i = .int j (Int.ofNat n) := hiv
          refine ⟨.int .u8 (.ofNat b), ?_, rfl⟩
          unfold execOp
          rw [ho]
          have hb' : (bytesOf s)[(Int.ofNat n).toNat]? = some (UInt8.ofNat b) := by
            show (bytesOf s).data[n]? = _
            show (s.map UInt8.ofNat).toArray[n]? = _
            simp [hb]
          simp only [Instr.index, hiv, hv, asIntOf, Sem.run_bind, Sem.run_pure, run_underlying hu, Result.andThen_ok]
          rw [if_pos (show (0 : Int) ≤ Int.ofNat n from Int.natCast_nonneg n), hb']
          simp only [Sem.run_pure, Result.andThen_ok, UInt8_back hlt]
          rfl
        · cases h1
      · cases h1
    · cases h
  · rename_i len elem hu
    split
    · rename_i agg es ha hs
      rw [iff_eq]
      split
      · rename_i h1
        have h1 : agg = true ∨ es = 1 := by
          rcases Bool.or_eq_true _ _ ▸ h1 with h | h
          · exact .inl h
          · exact .inr (Nat.eq_of_beq_eq_true h)
        refine OpOK.val fun cx e m v m' h => ?_
        have h : idxAgg agg len es ((evO P x).f e) ((evO P i).f e) m = .ok v m' := h
        unfold idxAgg at h
        split at h
        · rename_i l hxe
          rcases natOf_ok h with ⟨j, n, hie, h2⟩ | h2
          · rw [iff_ble] at h2
            split at h2
            · rename_i hlt
              rw [sub_eq] at h2
              split at h2
              · rename_i hlen
                obtain ⟨rfl, hv'⟩ := ofCells_ok h2
                refine ⟨rfl, fun ρ a w hx => ?_⟩
                have hxv := hx x
                rw [hxe] at hxv
                obtain ⟨vs, hv, hall⟩ := hxv
                have hiv := hx i
                rw [hie] at hiv
                have hiv : a.eval i = .int j (Int.ofNat n) := hiv
                obtain ⟨y, hy, hty⟩ := part_ok ha hs h1 hall hlen w
                refine ⟨y, ?_, hty.av hv'⟩
                unfold execOp
                rw [ho]
                have hin : 0 ≤ Int.ofNat n ∧ Int.ofNat n < (len : Int) := ⟨Int.natCast_nonneg n, by show (n : Int) < len; omega⟩
                have hy' : Sem.run P (part elem vs ((Int.ofNat n).toNat * es)) w = .ok y w := hy
                simp only [Instr.index, hiv, hv, asIntOf, Sem.run_bind, Sem.run_pure, run_underlying hu, Result.andThen_ok, hin, and_self, if_true, run_sizeT hs, hy']
              · cases h2
            · cases h2
          · cases h2
        · cases h
      · exact OpOK.no
    · exact OpOK.no
  · exact OpOK.no

/-! ### Values made of parts -/

theorem foldl_set (off : Nat) : ∀ (vs : List Value) (j : Nat) (cs : Array Value), off + j + vs.length ≤ cs.size →
    ((vs.zipIdx j).foldl (fun (cs : Array Value) (p : Value × Nat) => cs.setIfInBounds (off + p.2) p.1) cs).toList = cs.toList.take (off + j) ++ vs ++ cs.toList.drop (off + j + vs.length)
  | [], j, cs, _ => by simp
  | v :: vs, j, cs, h => by
    simp only [List.zipIdx_cons, List.foldl_cons]
    simp only [List.length_cons] at h
    rw [foldl_set off vs (j + 1) _ (by simp; omega)]
    simp only [Array.toList_setIfInBounds]
    have e := list_seg_step cs.toList (off + j) v vs (by simp; omega)
    simpa [Nat.add_assoc, Nat.add_comm 1] using e

theorem fill_step (place : Nat → Option (Nat × Nat)) {cells : Array Value} {i off size : Nat} {v : Value} {rest : List (Nat × Value)} (hp : place i = some (off, size)) (hs : v.cells.size = size) (hb : off + size ≤ cells.size) :
    ∃ cells', Instr.fill place cells ((i, v) :: rest) = Instr.fill place cells' rest ∧ cells'.toList = cells.toList.take off ++ v.cells.toList ++ cells.toList.drop (off + size) := by
  refine ⟨v.cells.zipIdx.foldl (fun cs (c, j) => cs.setIfInBounds (off + j) c) cells, ?_, ?_⟩
  · rw [Instr.fill, hp]
    simp only [hs, ne_eq, not_true_eq_false, decide_false, Bool.false_or, decide_eq_true_eq]
    rw [if_neg (by omega)]
  · rw [← Array.foldl_toList, Array.toList_zipIdx]
    have := foldl_set off v.cells.toList 0 cells (by simp [hs]; omega)
    simp only [Nat.add_zero, Array.length_toList, hs] at this
    exact this

theorem cellsA_ok {β : Type} {v : AV} {bad : β} {k : List CV → β} {r : β} (h : cellsA v bad k = r) : (∃ l, k l = r ∧ ∀ (ρ : Rho) (x : Value), AR ρ v x → All2 (CR ρ) l x.cells.toList) ∨ bad = r := by
  cases v with
  | c c => exact .inl ⟨[c], h, fun ρ x hx => by rw [AR.cells_c hx]; exact ⟨hx, trivial⟩⟩
  | agg l => exact .inl ⟨l, h, fun ρ x hx => by obtain ⟨vs, rfl, hv⟩ := hx; exact hv⟩
  | tup l => exact .inr h
  | top => exact .inr h

/-- The places of parts. -/
def Placed (place : Nat → Option (Nat × Nat)) : List (Nat × Operand) → List Part → Prop
  | [], [] => True
  | x :: l, p :: ps => (place x.1 = some (p.off, p.sz) ∧ p.x = x.2) ∧ Placed place l ps
  | _, _ => False

theorem layParts_ok {D : Nat} {e : NT D AV} {ev : Operand → Value} (hx : ∀ x, AR ρ ((evO P x).f e) (ev x)) {w : List Nat} (place : Nat → Option (Nat × Nat)) {v : AV} {m' : M} {k : List CV → RO} :
    ∀ (l : List (Nat × Operand)) (ps : List Part) (cs : List CV) (cells : Array Value), Placed place l ps → (layParts P (.fail w) ps).f e cs k = .ok v m' → All2 (CR ρ) cs cells.toList →
      ∃ cs' cells', k cs' = .ok v m' ∧ Instr.fill place cells (l.map fun p => (p.1, ev p.2)) = some cells' ∧ All2 (CR ρ) cs' cells'.toList
  | [], [], cs, cells, _, h, hc => ⟨cs, cells, h, rfl, hc⟩
  | [], _ :: _, _, _, hp, _, _ => hp.elim
  | _ :: _, [], _, _, hp, _, _ => hp.elim
  | (i, x) :: l, p :: ps, cs, cells, hp, h, hc => by
    obtain ⟨⟨hpl, hpx⟩, hrest⟩ := hp
    have h : cellsA ((evO P p.x).f e) (.fail w) (fun vs => iff (Nat.beq vs.length p.sz) (spl (.fail w) p.off vs cs fun cs => (layParts P (.fail w) ps).f e cs k) (.fail w)) = .ok v m' := h
    rcases cellsA_ok h with ⟨vs, h1, hvs⟩ | h1
    · have hval := hvs ρ _ (hx p.x)
      rw [iff_eq] at h1
      split at h1
      · rename_i hsz
        have hsz := Nat.eq_of_beq_eq_true hsz
        rw [spl_eq] at h1
        split at h1
        · rename_i hlen
          have hl1 : (ev p.x).cells.size = p.sz := by rw [← Array.length_toList, ← hval.length, hsz]
          have hl2 : p.off + p.sz ≤ cells.size := by rw [← Array.length_toList, ← hc.length, ← hsz]; exact hlen
          obtain ⟨cells1, hf, hlist⟩ := fill_step place (rest := l.map fun p => (p.1, ev p.2)) hpl (v := ev p.x) hl1 hl2
          have hc1 : All2 (CR ρ) (cs.take p.off ++ vs ++ cs.drop (p.off + vs.length)) cells1.toList := by
            rw [hlist]
            exact ((All2.take p.off hc).append hval).append (by rw [hsz]; exact All2.drop _ hc)
          obtain ⟨cs', cells', h2, h3, h4⟩ := layParts_ok hx place l ps _ cells1 hrest h1 hc1
          refine ⟨cs', cells', h2, ?_, h4⟩
          show Instr.fill place cells ((i, ev x) :: l.map fun p => (p.1, ev p.2)) = _
          rw [hpx] at hf
          rw [hf, h3]
        · cases h1
      · cases h1
    · cases h1

theorem run_places : ∀ (fs : List Field), allSizes P fs = true → ∀ (w : World), ∃ pl : List (Nat × Nat), (fs.mapM (fun f => (do pure (f.offset, ← Go.sizeOf f.type) : Sem (Nat × Nat)))).run P w = .ok pl w ∧ pl.length = fs.length ∧
    ∀ (i : Nat) (f : Field) (s : Nat), fs[i]? = some f → sizeT P f.type = some s → pl[i]? = some (f.offset, s)
  | [], _, w => ⟨[], rfl, rfl, fun i f s h => by simp at h⟩
  | f :: fs, h, w => by
    simp only [allSizes, List.all_cons, Bool.and_eq_true] at h
    obtain ⟨s, hs⟩ := Option.isSome_iff_exists.1 h.1
    obtain ⟨pl, h1, h2, h3⟩ := run_places fs h.2 w
    refine ⟨(f.offset, s) :: pl, ?_, by simp [h2], fun i g t hg ht => ?_⟩
    · simp only [List.mapM_cons, Sem.run_bind, run_sizeT hs, Result.andThen_ok, Sem.run_pure, h1]
    · cases i with
      | zero => simp at hg; subst hg; rw [hs] at ht; cases ht; rfl
      | succ i => simp at hg ⊢; exact h3 i g t hg ht

theorem placed_struct {fields : Array Field} {pl : List (Nat × Nat)} (hpl : ∀ (i : Nat) (f : Field) (s : Nat), fields.toList[i]? = some f → sizeT P f.type = some s → pl[i]? = some (f.offset, s)) :
    ∀ (l : List (Nat × Operand)) (ps : List Part), partsStruct P fields l = some ps → Placed (fun i => pl[i]?) l ps
  | [], ps, h => by cases h; trivial
  | x :: l, ps, h => by
    unfold partsStruct at h
    split at h
    · rename_i q r h1 h2
      cases h
      refine ⟨?_, placed_struct hpl l r h2⟩
      unfold placeStruct at h1
      split at h1
      · rename_i f hf
        split at h1
        · rename_i s hs
          cases h1
          exact ⟨hpl _ f s (by rw [Array.getElem?_toList]; exact hf) hs, rfl⟩
        · cases h1
      · cases h1
    · cases h

theorem placed_row (s : Nat) : ∀ (l : List (Nat × Operand)), Placed (fun i => some (i * s, s)) l (partsRow s l)
  | [] => trivial
  | _ :: l => ⟨⟨rfl, rfl⟩, placed_row s l⟩

theorem parts_map (parts : Array (Nat × Operand)) (ev : Operand → Value) : (parts.map fun (i, x) => (i, ev x)).toList = parts.toList.map fun p => (p.1, ev p.2) := by
  rw [Array.toList_map]

theorem buildD_ok {o : Oper} {t : TypeId} {parts : Array (Nat × Operand)} (ho : o.op = .build t parts) {D : Nat} : OpOK P o (buildD P t parts (D := D)) := by
  unfold buildD
  split
  · rename_i z fields hz hu
    unfold buildS
    split
    · rename_i ps hps hall
      refine OpOK.val' fun cx e m v m' h ρ a w hx => ?_
      have hm : ∀ cs, okAgg m cs = .ok v m' → m' = m ∧ v = .agg cs := fun cs h => by cases h; exact ⟨rfl, rfl⟩
      have h : (layParts P (.fail [33]) ps).f e z (okAgg m) = .ok v m' := h
      obtain ⟨zv, hzv, hzr⟩ := run_zeroT hz w
      obtain ⟨pl, h1, _, h3⟩ := run_places fields.toList hall w
      obtain ⟨cs', cells', hk, hf, hc⟩ := layParts_ok hx (fun i => pl[i]?) parts.toList ps z zv.cells (placed_struct h3 _ _ hps) h (hzr ρ)
      obtain ⟨rfl, rfl⟩ := hm _ hk
      refine ⟨rfl, .agg cells', ?_, cells', rfl, hc⟩
      unfold execOp
      rw [ho]
      have hmap : (fields.mapM (fun f => (do pure (f.offset, ← Go.sizeOf f.type) : Sem (Nat × Nat)))).run P w = .ok pl.toArray w := by
        rw [Array.mapM_eq_mapM_toList, Sem.run_map, h1]; rfl
      have hplace : (fun (x : Nat) => (pl.toArray)[x]?) = fun i => pl[i]? := by funext i; simp
      simp only [Instr.build, Sem.run_bind, hzv, run_underlying hu, Result.andThen_ok, hmap, hplace, parts_map, hf, Sem.run_pure]
    · exact OpOK.no
  · rename_i z n elem hz hu
    unfold buildR
    split
    · rename_i s hs
      refine OpOK.val' fun cx e m v m' h ρ a w hx => ?_
      have hm : ∀ cs, okAgg m cs = .ok v m' → m' = m ∧ v = .agg cs := fun cs h => by cases h; exact ⟨rfl, rfl⟩
      have h : (layParts P (.fail [35]) (partsRow s parts.toList)).f e z (okAgg m) = .ok v m' := h
      obtain ⟨zv, hzv, hzr⟩ := run_zeroT hz w
      obtain ⟨cs', cells', hk, hf, hc⟩ := layParts_ok hx (fun i => some (i * s, s)) parts.toList _ z zv.cells (placed_row s _) h (hzr ρ)
      obtain ⟨rfl, rfl⟩ := hm _ hk
      refine ⟨rfl, .agg cells', ?_, cells', rfl, hc⟩
      unfold execOp
      rw [ho]
      simp only [Instr.build, Sem.run_bind, hzv, run_underlying hu, Result.andThen_ok, run_sizeT hs, parts_map, hf, Sem.run_pure]
    · exact OpOK.no
  · exact OpOK.no

end Go.CE
