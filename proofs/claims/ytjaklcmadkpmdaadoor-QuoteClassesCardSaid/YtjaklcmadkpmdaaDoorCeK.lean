/- Rows made, functions as values. No program is named. -/
import Derived.Test.YtjaklcmadkpmdaaDoorCeJ
import Derived.Laws.MakeOwn
noncomputable section
namespace Go.CE
open Go

variable {P : Program} {B0 : Nat} {A W W' : Nat → Prop} {ρ ρ' ρ'' : Rho} {m m' m'' : M} {w w' w'' : World}

/-! ### Zeros, over and over -/

/-- A cell that is worked out as it stands. -/
def PlainC (c : CV) : Prop := ∀ (β : Type) (k : CV → β) (bad : β), forceCell c k bad = k c

theorem PlainC.of {v : Value} {c : CV} (h : ofCV v = some c) : PlainC c := by
  intro β k bad
  unfold ofCV at h
  split at h <;> cases h <;> simp only [forceCell, inum_eq, num_eq, forceStr_eq]
  rename_i b
  cases b <;> rfl

theorem PlainC.all : ∀ {l : List Value} {cs : List CV}, ofCVs l = some cs → ∀ c ∈ cs, PlainC c
  | [], cs, h, c, hc => by simp [ofCVs] at h; subst h; cases hc
  | v :: r, cs, h, c, hc => by
    unfold ofCVs at h
    split at h
    · rename_i x l h1 h2
      cases h
      rcases List.mem_cons.1 hc with rfl | hc
      · exact PlainC.of h1
      · exact PlainC.all h2 c hc
    · cases h

theorem forceCells_plain {β : Type} : ∀ (l : List CV) (bad : β) (k : List CV → β), (∀ c ∈ l, PlainC c) → forceCells l bad k = k l
  | [], _, _, _ => rfl
  | x :: l, bad, k, h => by
    have e : forceCells (x :: l) bad k = forceCell x (fun x => forceCells l bad fun r => k (x :: r)) bad := rfl
    rw [e, h x (by simp) β]
    exact forceCells_plain l bad _ fun c hc => h c (by simp [hc])

theorem zeroT_plain {t : TypeId} {z : List CV} (h : zeroT P t = some z) : ∀ c ∈ z, PlainC c := by
  unfold zeroT at h
  split at h
  · split at h
    · exact PlainC.all h
    · cases h
  · cases h

theorem reps_mem {z : List CV} {c : CV} : ∀ (n : Nat), c ∈ reps z n → c ∈ z
  | 0, h => by cases h
  | n + 1, h => by
    have h : c ∈ z ++ reps z n := h
    rcases List.mem_append.1 h with h | h
    · exact h
    · exact reps_mem n h

theorem repsF_eq {t : TypeId} {z : List CV} (h : zeroT P t = some z) (n : Nat) : (repsF z n).l = reps z n := by
  unfold repsF
  rw [forceCells_plain _ _ _ fun c hc => zeroT_plain h c (reps_mem n hc)]

theorem reps_len (z : List CV) : ∀ n, (reps z n).length = n * z.length
  | 0 => by rw [Nat.zero_mul]; rfl
  | n + 1 => by
    show (z ++ reps z n).length = _
    rw [List.length_append, reps_len z n, Nat.succ_mul]; omega

theorem reps_get (z : List CV) (hz : 0 < z.length) : ∀ (n i : Nat), i < n * z.length → (reps z n)[i]? = z[i % z.length]?
  | 0, i, h => by simp at h
  | n + 1, i, h => by
    show (z ++ reps z n)[i]? = _
    rw [List.getElem?_append]
    by_cases hi : i < z.length
    · rw [if_pos hi, Nat.mod_eq_of_lt hi]
    · rw [if_neg hi, reps_get z hz n _ (by rw [Nat.succ_mul] at h; omega)]
      congr 1
      rw [Nat.mod_eq_sub_mod (Nat.le_of_not_lt hi)]

theorem reps_ok {z : List CV} {zc : Array Value} (h : All2 (CR ρ) z zc.toList) (hz : 0 < z.length) (n k : Nat) (hk : k = n * z.length) : All2 (CR ρ) (reps z n) ((Array.range k).map (zc[· % zc.size]!)).toList := by
  subst hk
  have hl : z.length = zc.size := by rw [h.length, Array.length_toList]
  refine All2.of_get (by simp [reps_len]) fun i a b ha hb => ?_
  have hi : i < n * z.length := by
    have := (List.getElem?_eq_some_iff.1 ha).1
    rwa [reps_len] at this
  rw [reps_get z hz n i hi] at ha
  obtain ⟨y, hy, hc⟩ := h.get _ _ ha
  have : b = y := by
    simp only [Array.toList_map, Array.toList_range, List.getElem?_map, List.getElem?_range hi, Option.map_some] at hb
    cases hb
    rw [Array.getElem?_toList, hl] at hy
    rw [getElem!_def, hy]
  rw [this]; exact hc

theorem run_info {t : TypeId} {s : Nat} (h : sizeT P t = some s) : ∃ i, P.info? t = some i ∧ i.size = s := sizeT_some h

/-- Places of the elements of a row. -/
theorem buildSliceD_ok {o : Oper} {t : TypeId} {len : Nat} {parts : Array (Nat × Operand)} (ho : o.op = .buildSlice t len parts) {D : Nat} : OpOK P o (buildSliceD P t len parts (D := D)) := by
  unfold buildSliceD
  split
  · rename_i elem hu
    split
    · rename_i s z hs hz
      unfold buildSliceL
      rw [iff_eq]
      split
      · rename_i hc
        simp only [Bool.and_eq_true, ble_iff] at hc
        have h1 : 1 ≤ s := hc.1.1
        have h2 : z.length = s := Nat.eq_of_beq_eq_true hc.1.2
        have h3 : len * s ≤ 16777216 := hc.2
        intro c e m v m' h B0 A N ρ a w hw _ hr he hf
        have h : (layParts P (.fail [38]) (partsRow s parts.toList)).f e (repsF z len).l (fun cs => rowOf elem s cs (.fail [236]) fun ob => fresh ob m (.fail [39]) (okSlc len len)) = .ok v m' := h
        rw [repsF_eq hz] at h
        obtain ⟨zv, hzv, hzr⟩ := run_zeroT hz w
        obtain ⟨cs', cells', hk, hfl, hall⟩ := layParts_ok (fun x => he.eval hr.glob x) (fun i => some (i * s, s)) parts.toList _ _ _ (placed_row s _) h (reps_ok (hzr ρ) (by omega) len (len * s) (by rw [h2]))
        rcases rowOf_OR elem s cs' (.fail [236]) (fun ob => fresh ob m (.fail [39]) (okSlc len len)) with h4 | ⟨ob, h4, hob⟩
        · rw [h4] at hk; cases hk
        · rw [h4] at hk
          rcases fresh_ok hk with hk | ⟨hnx, hk⟩
          · cases hk
          · obtain ⟨rfl, rfl⟩ := okSlc_eq hk
            have hρ := hf.one rfl
            refine ⟨.slice (some ⟨w.heap.size, 0, none⟩) len len, _, _, .inl ?_, Done.fresh hw hr hnx hρ (x := 0) (hob _ _ cells' (All2.mono (fun _ _ => CR.mono (ins_ext hρ)) hall)) ⟨_, ins_self _ _, rfl⟩⟩
            unfold execOp
            rw [ho]
            simp only [Instr.buildSlice, Sem.run_bind, run_underlying hu, Result.andThen_ok, run_sizeT hs, Sem.run_ite]
            rw [if_neg (by omega)]
            by_cases h0 : len * s = 0
            · rw [h0] at hfl
              simp only [h0, if_true, Sem.run_pure, Result.andThen_ok, parts_map]
              rw [Array.range_zero', Array.map_empty] at hfl ⊢
              simp only [hfl, Sem.run_bind, run_newRow, Result.andThen_ok, Sem.run_pure]
            · simp only [h0, if_false, Sem.run_bind, hzv, Sem.run_pure, Result.andThen_ok, parts_map, hfl, run_newRow]
      · exact OpOK.no
    · exact OpOK.no
  · exact OpOK.no

theorem makeSliceD_ok {o : Oper} {t : TypeId} {l c : Operand} (ho : o.op = .makeSlice t l c) {D : Nat} : OpOK P o (makeSliceD P t l c (D := D)) := by
  unfold makeSliceD
  split
  · rename_i elem hu
    split
    · rename_i i z hi hz
      unfold makeSliceL
      rw [iff_eq]
      split
      · rename_i hc
        simp only [Bool.and_eq_true, ble_iff] at hc
        have h1 : 1 ≤ i.size := hc.1.1
        have h2 : z.length = i.size := Nat.eq_of_beq_eq_true hc.1.2
        have h3 : i.bytes ≤ 1000000 := hc.2
        intro cx e m v m' h B0 A N ρ a w hw _ hr he hf
        have h : natOf ((evO P l).f e) (.fail [113]) (fun l => natOf ((evO P c).f e) (.fail [112]) fun c => makeSl elem i.size z m l c) = .ok v m' := h
        rcases natOf_ok h with ⟨jl, nl, hl, h⟩ | h
        · rcases natOf_ok h with ⟨jc, nc, hcc, h⟩ | h
          · unfold makeSl at h
            rw [iff_eq] at h
            split at h
            · rename_i hle
              simp only [Bool.and_eq_true, ble_iff] at hle
              rw [repsF_eq hz] at h
              rcases rowOf_OR elem i.size (reps z nc) (.fail [237]) (fun ob => fresh ob m (.fail [110]) (okSlc nl nc)) with h4 | ⟨ob, h4, hob⟩
              · rw [h4] at h; cases h
              · rw [h4] at h
                rcases fresh_ok h with h | ⟨hnx, h⟩
                · cases h
                · obtain ⟨rfl, rfl⟩ := okSlc_eq h
                  have hρ := hf.one rfl
                  obtain ⟨zv, hzi, hzr⟩ : ∃ zv, i.zero = some zv ∧ ∀ ρ, All2 (CR ρ) z zv.cells.toList := by
                    unfold zeroT at hz
                    rw [hi] at hz
                    dsimp only at hz
                    split at hz
                    · rename_i zv hzv
                      exact ⟨zv, hzv, fun ρ => ofCVs_ok ρ hz⟩
                    · cases hz
                  have hlv := he.eval hr.glob l
                  rw [hl] at hlv
                  have hlv : a.eval l = .int jl (Int.ofNat nl) := hlv
                  have hcv := he.eval hr.glob c
                  rw [hcc] at hcv
                  have hcv : a.eval c = .int jc (Int.ofNat nc) := hcv
                  have hbc : i.bytes * nc ≤ 1000000 * 1000000 := Nat.mul_le_mul h3 hle.2
                  have hrun := run_make (P := P) w t elem i zv hu hi hzi jl jc (Int.ofNat nl) (Int.ofNat nc) (Int.natCast_nonneg _) (by show (nl : Int) ≤ nc; omega)
                    (by have : ((i.bytes * nc : Nat) : Int) ≤ 281474976710656 := by omega
                        rwa [Int.natCast_mul] at this) (by show (nc : Int) ≤ _; omega)
                  refine ⟨.slice (some ⟨w.heap.size, 0, none⟩) nl nc, _, _, .inl ?_, Done.fresh hw hr hnx hρ (x := 0) (hob _ _ (madeCells zv.cells (nc * i.size)) ?_) ⟨_, ins_self _ _, rfl⟩⟩
                  · unfold execOp
                    rw [ho]
                    simp only [Sem.run_bind, hlv, hcv, hrun, Result.andThen_ok, Sem.run_pure]
                    rfl
                  · exact reps_ok (hzr _) (by omega) nc _ (by rw [h2])
            · cases h
          · cases h
        · cases h
      · exact OpOK.no
    · exact OpOK.no
  · exact OpOK.no

/-! ### Maps made -/

theorem okMap_eq {id : Nat} {v : AV} (h : okMap id m = .ok v m') : v = .c (.ref (.map id)) ∧ m' = m := by cases h; exact ⟨rfl, rfl⟩

theorem makeMapD_ok {o : Oper} {t : TypeId} {r : Option Operand} (ho : o.op = .makeMap t r) {D : Nat} : OpOK P o (makeMapD P t r (D := D)) := by
  have main : ∀ (k : Nat) (m : M) (v : AV) (m' : M), fresh (.mp [] 0) m (.fail [k]) okMap = .ok v m' → ∀ (B0 : Nat) (A : Nat → Prop) (ρ : Rho) (a : Act) (w : World), WF P m → Rel P B0 A ρ m.H w → Fresh ρ m m' →
      (execOp a.eval o).run P w = .ok (.value (.map (some w.heap.size))) (w.alloc (.map #[] 0)) → ∃ x w' ρ', Runs P o a w x w' ∧ Done P B0 A ρ m w v m' x w' ρ' := by
    intro k m v m' h B0 A ρ a w hw hr hf hrun
    rcases fresh_ok h with h | ⟨hnx, h⟩
    · cases h
    · obtain ⟨rfl, rfl⟩ := okMap_eq h
      have hρ := hf.one rfl
      exact ⟨_, _, _, .inl hrun, Done.fresh hw hr hnx hρ (x := 0) ⟨#[], rfl, trivial⟩ ⟨_, ins_self _ _, rfl⟩⟩
  unfold makeMapD
  split
  · intro c e m v m' h B0 A N ρ a w hw _ hr he hf
    refine main 88 m v m' h B0 A ρ a w hw hr hf ?_
    unfold execOp
    rw [ho]
    rfl
  · rename_i x
    split
    · rename_i kt et hu
      intro c e m v m' h B0 A N ρ a w hw _ hr he hf
      have h : hintA ((evO P x).f e) m = .ok v m' := h
      unfold hintA at h
      split at h
      · rename_i j n hx
        refine main 89 m v m' h B0 A ρ a w hw hr hf ?_
        have hxv := he.eval hr.glob x
        rw [hx] at hxv
        have hxv : a.eval x = .int j n := hxv
        unfold execOp
        rw [ho]
        simp only [Option.map_some, hxv, Instr.makeMap, Sem.run_bind, run_underlying hu, Result.andThen_ok, asInt, asIntOf, Sem.run_pure, run_newObj]
        rfl
      · cases h
    · exact OpOK.no

/-! ### Functions as values -/

theorem ptrs_ok {D : Nat} {e : NT D AV} {ev : Operand → Value} (hx : ∀ x, AR ρ ((evO P x).f e) (ev x)) : ∀ (l : List Operand) (k : List (Nat × Nat) → RO) {v : AV}, (ptrs P l).f e k = .ok v m' → ∃ ps, k ps = .ok v m' ∧ All2 (PR ρ) ps (l.map ev)
  | [], k, v, h => ⟨[], h, trivial⟩
  | x :: r, k, v, h => by
    have h : (match (evO P x).f e with
      | .c (.ref (.ptr id off)) => (ptrs P r).f e fun l => k ((id, off) :: l)
      | _ => .fail [85]) = RO.ok v m' := h
    split at h
    · rename_i id off hxe
      obtain ⟨ps, h1, h2⟩ := ptrs_ok hx r _ h
      have := hx x
      rw [hxe] at this
      exact ⟨_, h1, this, h2⟩
    · cases h

theorem makeFuncD_ok {o : Oper} {fn : Fn} {first caps : Array Operand} (ho : o.op = .makeFunc fn first caps) {D : Nat} : OpOK P o (makeFuncD P fn first caps (D := D)) := by
  unfold makeFuncD
  split
  · rename_i f
    intro c e m v m' h B0 A N ρ a w hw _ hr he hf
    have h : (ptrs P first.toList).f e (fun a => (ptrs P caps.toList).f e fun b => .ok (.c (.ref (.fn f a b))) m) = RO.ok v m' := h
    obtain ⟨ps, h, hps⟩ := ptrs_ok (fun x => he.eval hr.glob x) _ _ h
    obtain ⟨qs, h, hqs⟩ := ptrs_ok (fun x => he.eval hr.glob x) _ _ h
    cases h
    refine ⟨.func (.func f) (first.map a.eval) (caps.map a.eval), w, ρ, .inl ?_, Done.pure hw hr ⟨_, _, rfl, ?_, ?_⟩⟩
    · unfold execOp
      rw [ho]
      rfl
    · rw [Array.toList_map]; exact hps
    · rw [Array.toList_map]; exact hqs
  · exact OpOK.no

/-! ### Lengths -/

theorem okN_eq {n : Nat} {v : AV} (h : okN n m = .ok v m') : v = .c (.int .i64 (.ofNat n)) ∧ m' = m := by
  unfold okN at h
  rw [num_eq] at h
  cases h; exact ⟨rfl, rfl⟩

theorem execBuiltin {o : Oper} {c : Call} {b : Builtin} (ho : o.op = .call c) (hc : c.callee = .builtin b) (e : Operand → Value) :
    (execOp e o).run P w = (builtin b c.argTypes o.type (c.args.map fun | .const _ => true | _ => false) (c.args.map e)).run P w := by
  unfold execOp
  rw [ho]
  simp only [resolve, hc]
  rfl

theorem lenD_ok {o : Oper} {c : Call} {t : TypeId} {x : Operand} (ho : o.op = .call c) (hc : c.callee = .builtin .len) (ha : c.args.toList = [x]) (ht : c.argTypes[0]? = some t) {D : Nat} : OpOK P o (lenD P t x (D := D)) := by
  have hargs : c.args = #[x] := Array.toList_inj.1 (by rw [ha])
  have run : ∀ (a : Act) (n : Nat) (w : World), (Builtin.len_ c.argTypes o.type #[a.eval x]).run P w = .ok (goInt n) w → (execOp a.eval o).run P w = .ok (.value (.int .i64 (Int.ofNat n))) w := fun a n w h => by
    rw [execBuiltin ho hc, hargs]
    simp only [builtin, Sem.run_bind, List.map_toArray, List.map_cons, List.map_nil, h, Result.andThen_ok, Sem.run_pure]
    rfl
  unfold lenD
  split
  · rename_i hu
    refine OpOK.val fun cx e m v m' h => ?_
    have h : lenStr ((evO P x).f e) m = .ok v m' := h
    unfold lenStr at h
    split at h
    · rename_i s hs
      obtain ⟨rfl, rfl⟩ := okN_eq h
      refine ⟨rfl, fun ρ a w hx => ⟨_, run a s.length w ?_, rfl⟩⟩
      have := hx x
      rw [hs] at this
      have hv : a.eval x = .string (bytesOf s) := this.1
      rw [hv]
      simp [Builtin.len_, ht, run_underlying hu, bytesOf_size]
    · cases h
  · rename_i n el hu
    refine OpOK.val fun cx e m v m' h => ?_
    obtain ⟨rfl, rfl⟩ := okN_eq h
    refine ⟨rfl, fun ρ a w hx => ⟨_, run a n w ?_, rfl⟩⟩
    simp [Builtin.len_, ht, run_underlying hu]
  · rename_i el hu
    refine OpOK.val fun cx e m v m' h => ?_
    have h : lenSlc ((evO P x).f e) m = .ok v m' := h
    unfold lenSlc at h
    split at h
    · rename_i id off len cap hs
      obtain ⟨rfl, rfl⟩ := okN_eq h
      refine ⟨rfl, fun ρ a w hx => ⟨_, run a len w ?_, rfl⟩⟩
      have := hx x
      rw [hs] at this
      obtain ⟨sg, _, hv⟩ := this
      rw [hv]
      simp [Builtin.len_, ht, run_underlying hu]
    · rename_i hs
      obtain ⟨rfl, rfl⟩ := okN_eq h
      refine ⟨rfl, fun ρ a w hx => ⟨_, run a 0 w ?_, rfl⟩⟩
      have := hx x
      rw [hs] at this
      have hv : a.eval x = .slice none 0 0 := this
      rw [hv]
      simp [Builtin.len_, ht, run_underlying hu]
    · rename_i hs
      obtain ⟨rfl, rfl⟩ := okN_eq h
      refine ⟨rfl, fun ρ a w hx => ⟨_, run a 0 w ?_, rfl⟩⟩
      have := hx x
      rw [hs] at this
      obtain ⟨b, q, hv⟩ := this
      rw [hv]
      simp [Builtin.len_, ht, run_underlying hu]
    · rename_i id off len cap hs
      obtain ⟨rfl, rfl⟩ := okN_eq h
      refine ⟨rfl, fun ρ a w hx => ⟨_, run a len w ?_, rfl⟩⟩
      have := hx x
      rw [hs] at this
      obtain ⟨sg, _, hv⟩ := this
      rw [hv]
      simp [Builtin.len_, ht, run_underlying hu]
    · rename_i hs
      obtain ⟨rfl, rfl⟩ := okN_eq h
      refine ⟨rfl, fun ρ a w hx => ⟨_, run a 0 w ?_, rfl⟩⟩
      have := hx x
      rw [hs] at this
      obtain ⟨b, hv⟩ := this
      rw [hv]
      simp [Builtin.len_, ht, run_underlying hu]
    · cases h
  · rename_i k el hu
    intro cx e m v m' h B0 A N ρ a w hw hin hr he hf
    have hx := he.eval hr.glob x
    have h : lenMap P ((evO P x).f e) m = .ok v m' := h
    unfold lenMap at h
    split at h
    · rename_i hs
      obtain ⟨rfl, rfl⟩ := okN_eq h
      refine ⟨_, w, ρ, .inl (run a 0 w ?_), Done.pure hw hr rfl⟩
      rw [hs] at hx
      have hv : a.eval x = .map none := hx
      rw [hv]
      simp [Builtin.len_, ht, run_underlying hu]
    · rename_i id hs
      obtain ⟨rm, hrm, hid, h⟩ := look_ok h
      unfold lenOb at h
      split at h
      · rename_i es clock hob
        obtain ⟨rfl, rfl⟩ := okN_eq h
        rw [hs] at hx
        obtain ⟨sg, hsg, hv⟩ := hx
        have hat := hr.at hin hsg hid
        rw [hob] at hat
        obtain ⟨ents, hb, hall⟩ := hat
        refine ⟨_, w, ρ, .inl (run a es.length w ?_), Done.looked hw hr hrm rfl⟩
        rw [hv]
        have hl : ents.size = es.length := by rw [hall.length, Array.length_toList]
        simp [Builtin.len_, ht, run_underlying hu, getObj, Sem.run, hb, hl]
      · cases h
    · cases h
  · exact OpOK.no

end Go.CE
