/- Numbers only grow, marks only sink. No program is named. -/
import Derived.Test.YtjaklcmadkpmdaaDoorCeN
noncomputable section
namespace Go.CE
open Go

variable {P : Program} {m0 m m' m'' : M}

structure Mono (P : Program) (m m' : M) : Prop where
  nx : m.nx ≤ m'.nx
  rm : m'.rm ≤ m.rm
  wm : m'.wm ≤ m.wm
  cap : m.nx ≤ capN hd → m'.nx ≤ capN hd
  keep : m.nx ≤ capN hd → ∀ id, id < m.nx → id < m'.wm → obj m'.H id = obj m.H id
  glo : m.nx ≤ capN hd → ∀ id, id < m.nx → id < glb P → obj m'.H id = obj m.H id
  wf : WF P m → WF P m'
  rw' : m.rm ≤ m.wm → m'.rm ≤ m'.wm

theorem Mono.refl (m : M) : Mono P m m := ⟨Nat.le_refl _, Nat.le_refl _, Nat.le_refl _, fun h => h, fun _ _ _ _ => rfl, fun _ _ _ _ => rfl, fun h => h, fun h => h⟩
theorem Mono.trans (h : Mono P m m') (h' : Mono P m' m'') : Mono P m m'' := ⟨Nat.le_trans h.nx h'.nx, Nat.le_trans h'.rm h.rm, Nat.le_trans h'.wm h.wm, fun hc => h'.cap (h.cap hc),
  fun hc id h1 h2 => by rw [h'.keep (h.cap hc) id (Nat.lt_of_lt_of_le h1 h.nx) h2, h.keep hc id h1 (Nat.lt_of_lt_of_le h2 h'.wm)],
  fun hc id h1 h2 => by rw [h'.glo (h.cap hc) id (Nat.lt_of_lt_of_le h1 h.nx) h2, h.glo hc id h1 h2],
  fun hw => h'.wf (h.wf hw), fun hw => h'.rw' (h.rw' hw)⟩
theorem Mono.marks (m : M) {rm wm : Nat} (dfs : List Nat) (h1 : rm ≤ m.rm) (h2 : wm ≤ m.wm) (h3 : m.rm ≤ m.wm → rm ≤ wm) : Mono P m ⟨m.H, m.nx, rm, wm, dfs⟩ := ⟨Nat.le_refl _, h1, h2, fun h => h, fun _ _ _ _ => rfl, fun _ _ _ _ => rfl, fun h => ⟨h.gnx, h.cap, h.dead⟩, h3⟩
theorem Mono.marks' (m : M) {rm : Nat} (dfs : List Nat) (h1 : rm ≤ m.rm) : Mono P m ⟨m.H, m.nx, rm, m.wm, dfs⟩ := Mono.marks m dfs h1 (Nat.le_refl _) fun h => Nat.le_trans h1 h
theorem Mono.upd (m : M) {id : Nat} (hg : glb P ≤ id) (hid : id < m.nx) (ob : Ob) {rm wm : Nat} (dfs : List Nat) (h1 : rm ≤ m.rm) (h2 : wm ≤ m.wm) (h3 : wm ≤ id) (h4 : m.rm ≤ m.wm → rm ≤ wm) : Mono P m ⟨updN hd id m.H ob, m.nx, rm, wm, dfs⟩ :=
  ⟨Nat.le_refl _, h1, h2, fun h => h, fun hc j hj hjw => by
    show obj (updN hd id m.H ob) j = _
    have hjw : j < wm := hjw
    rw [obj_upd (by omega) (by omega), if_neg (by omega)], fun hc j hj hjg => by
    show obj (updN hd id m.H ob) j = _
    rw [obj_upd (by omega) (by omega), if_neg (by omega)], fun hw => ⟨hw.gnx, hw.cap, fun j hj hjc => by
    show obj (updN hd id m.H ob) j = _
    have hj : m.nx ≤ j := hj
    rw [obj_upd (by have := hw.cap; omega) hjc, if_neg (by omega)]
    exact hw.dead j hj hjc⟩, h4⟩
theorem Mono.upd' (m : M) {id : Nat} (hg : glb P ≤ id) (hid : id < m.nx) (ob : Ob) {rm : Nat} (dfs : List Nat) (hrm : rm ≤ m.rm) : Mono P m ⟨updN hd id m.H ob, m.nx, min rm id, min m.wm id, dfs⟩ :=
  Mono.upd m hg hid ob dfs (Nat.le_trans (Nat.min_le_left _ _) hrm) (Nat.min_le_left _ _) (Nat.min_le_right _ _) fun h => by omega
theorem Mono.new (m : M) (hnx : m.nx < capN hd) (ob : Ob) (dfs : List Nat) : Mono P m ⟨updN hd m.nx m.H ob, m.nx + 1, m.rm, m.wm, dfs⟩ :=
  ⟨Nat.le_succ _, Nat.le_refl _, Nat.le_refl _, fun _ => hnx, fun hc j hj hjw => by
    show obj (updN hd m.nx m.H ob) j = _
    rw [obj_upd (by omega) (by omega), if_neg (by omega)], fun hc j hj hjw => by
    show obj (updN hd m.nx m.H ob) j = _
    rw [obj_upd (by omega) (by omega), if_neg (by omega)], fun hw => ⟨Nat.le_succ_of_le hw.gnx, hnx, fun j hj hjc => by
    show obj (updN hd m.nx m.H ob) j = _
    have hj : m.nx + 1 ≤ j := hj
    rw [obj_upd hnx hjc, if_neg (by omega)]
    exact hw.dead j (by omega) hjc⟩, fun h => h⟩
/-- What is kept of deferred calls does not matter. -/
theorem Mono.dfs (h : Mono P m0 m) (dfs : List Nat) : Mono P m0 ⟨m.H, m.nx, m.rm, m.wm, dfs⟩ := h.trans (Mono.marks' m dfs (Nat.le_refl _))
theorem Mono.dfs' {dfs : List Nat} (h : Mono P ⟨m0.H, m0.nx, m0.rm, m0.wm, dfs⟩ m) : Mono P m0 m := ⟨h.nx, h.rm, h.wm, h.cap, h.keep, h.glo, fun hw => h.wf ⟨hw.gnx, hw.cap, hw.dead⟩, h.rw'⟩

def MonoR (P : Program) (m0 : M) (r : RO) : Prop := ∀ v m', r = .ok v m' → Mono P m0 m'

theorem MonoR.fail (k : List Nat) : MonoR P m0 (.fail k) := fun _ _ h => by cases h
theorem MonoR.ok {v : AV} (h : Mono P m0 m) : MonoR P m0 (.ok v m) := fun _ _ e => by cases e; exact h
theorem MonoR.iff {b : Bool} {x y : RO} (hx : MonoR P m0 x) (hy : MonoR P m0 y) : MonoR P m0 (iff b x y) := by cases b <;> assumption
theorem MonoR.num {n : Nat} {k : Nat → RO} (h : ∀ n, MonoR P m0 (k n)) : MonoR P m0 (num n k) := by rw [num_eq]; exact h n

theorem MonoR.look {id : Nat} {k : Ob → M → RO} (h : Mono P m0 m) (hk : ∀ ob m1, Mono P m0 m1 → MonoR P m0 (k ob m1)) : MonoR P m0 (look P id m k) := fun v m' e => by
  obtain ⟨rm, hrm, _, e⟩ := look_ok e
  exact hk _ ⟨m.H, m.nx, rm, m.wm, m.dfs⟩ (h.trans (Mono.marks' m _ hrm)) v m' e

theorem MonoR.turn {id : Nat} {ob : Ob} {bad : RO} {k : M → RO} (h : Mono P m0 m) (hb : MonoR P m0 bad) (hk : ∀ m1, Mono P m0 m1 → MonoR P m0 (k m1)) : MonoR P m0 (turn P id ob m bad k) := fun v m' e => by
  rcases turn_ok' e with e | ⟨hg, hid, e⟩
  · exact hb v m' e
  · exact hk ⟨updN hd id m.H ob, m.nx, min m.rm id, min m.wm id, m.dfs⟩ (h.trans (Mono.upd m hg hid ob _ (Nat.min_le_left _ _) (Nat.min_le_left _ _) (Nat.min_le_right _ _) (fun h => by omega))) v m' e

theorem MonoR.fresh {ob : Ob} {bad : RO} {k : Nat → M → RO} (h : Mono P m0 m) (hb : MonoR P m0 bad) (hk : ∀ n m1, Mono P m0 m1 → MonoR P m0 (k n m1)) : MonoR P m0 (fresh ob m bad k) := fun v m' e => by
  rcases fresh_ok e with e | ⟨hnx, e⟩
  · exact hb v m' e
  · exact hk m.nx ⟨updN hd m.nx m.H ob, m.nx + 1, m.rm, m.wm, m.dfs⟩ (h.trans (Mono.new m hnx ob _)) v m' e

theorem MonoR.natOf {v : AV} {bad : RO} {k : Nat → RO} (hb : MonoR P m0 bad) (hk : ∀ n, MonoR P m0 (k n)) : MonoR P m0 (natOf v bad k) := fun x m' e => by
  rcases natOf_ok e with ⟨_, n, _, e⟩ | e
  · exact hk n x m' e
  · exact hb x m' e

theorem MonoR.cellsA {v : AV} {bad : RO} {k : List CV → RO} (hb : MonoR P m0 bad) (hk : ∀ l, MonoR P m0 (k l)) : MonoR P m0 (cellsA v bad k) := by
  cases v with
  | c c => exact hk _
  | agg l => exact hk _
  | tup l => exact hb
  | top => exact hb

theorem MonoR.keyOf {v : AV} {bad : RO} {k : TV → RO} (hb : MonoR P m0 bad) (hk : ∀ l, MonoR P m0 (k l)) : MonoR P m0 (keyOf v bad k) := by
  cases v with
  | c c => exact hk _
  | agg l => exact hk _
  | tup l => exact hb
  | top => exact hb

theorem MonoR.tvOf {v : AV} {bad : RO} {k : TV → RO} (hb : MonoR P m0 bad) (hk : ∀ l, MonoR P m0 (k l)) : MonoR P m0 (tvOf v bad k) := by
  cases v with
  | c c => exact hk _
  | agg l => exact hk _
  | tup l => exact hb
  | top => exact hb

theorem MonoR.spl {off : Nat} {vs cs : List CV} {bad : RO} {k : List CV → RO} (hb : MonoR P m0 bad) (hk : ∀ l, MonoR P m0 (k l)) : MonoR P m0 (spl bad off vs cs k) := by
  rw [spl_eq]; split
  · exact hk _
  · exact hb

theorem MonoR.sub {l : List CV} {off s : Nat} {bad : RO} {k : List CV → RO} (hb : MonoR P m0 bad) (hk : ∀ l, MonoR P m0 (k l)) : MonoR P m0 (sub bad l off s k) := by
  rw [sub_eq]; split
  · exact hk _
  · exact hb

theorem MonoR.rowOf {elem sz : Nat} {cells : List CV} {bad : RO} {k : Ob → RO} (hb : MonoR P m0 bad) (hk : ∀ ob, MonoR P m0 (k ob)) : MonoR P m0 (rowOf elem sz cells bad k) := by
  rcases rowOf_ok elem sz cells bad k with h | ⟨sz', d, t, h, _⟩
  · rw [h]; exact hb
  · rw [h]; exact hk _

theorem MonoR.takeCells {sz d s off : Nat} {t : NT d TV} {bad : RO} {k : List CV → RO} (hb : MonoR P m0 bad) (hk : ∀ l, MonoR P m0 (k l)) : MonoR P m0 (takeCells sz d t s off bad k) := by
  rcases takeCells_or sz d t s off bad k with h | ⟨l, h⟩
  · rw [h]; exact hb
  · rw [h]; exact hk _

theorem MonoR.layCells {sz d s off : Nat} {l : List CV} {t : NT d TV} {bad : RO} {k : NT d TV → RO} (hs : l.length = s) (hb : MonoR P m0 bad) (hk : ∀ l, MonoR P m0 (k l)) : MonoR P m0 (layCells sz d l s t off bad k) := by
  rcases layCells_ok sz d t l s off bad k hs with h | ⟨l, h, _⟩
  · rw [h]; exact hb
  · rw [h]; exact hk _

theorem MonoR.pieces {s : Nat} {l : List CV} {bad : RO} {k : List TV → RO} (hb : MonoR P m0 bad) (hk : ∀ l, MonoR P m0 (k l)) : MonoR P m0 (pieces s l bad k) := by
  rcases pieces_ok s l bad k with h | ⟨l, h, _⟩
  · rw [h]; exact hb
  · rw [h]; exact hk _

theorem MonoR.bld {d : Nat} {l : List TV} {k : NT d TV → List TV → RO} (hk : ∀ t l, MonoR P m0 (k t l)) : MonoR P m0 (bld topT d l k) := by
  obtain ⟨t, h, _⟩ := bld_ok topT d l k
  rw [h]; exact hk _ _

theorem MonoR.back {v : Value} (h : Mono P m0 m) : MonoR P m0 (backV v m) := fun a m' e => by
  obtain ⟨rfl, _⟩ := backV_ok e; exact h

theorem MonoR.backN {v : Option Next} (h : Mono P m0 m) : MonoR P m0 (backN v m) := fun a m' e => by
  obtain ⟨_, _, rfl, _⟩ := backN_ok e; exact h

/-- An operation that numbers so. -/
def OpMono (P : Program) {D : Nat} (f : OpF D) : Prop := ∀ (c : Ctx) (e : NT D AV) (m0 m : M), Mono P m0 m → MonoR P m0 (f.f c e m)

theorem OpMono.no {D k : Nat} : OpMono P (noOp (D := D) k) := fun _ _ _ _ _ => .fail _

/-- An operation that turns nothing. -/
theorem OpMono.same {D : Nat} {f : OpF D} (h : ∀ (c : Ctx) (e : NT D AV) (m : M) (v : AV) (m' : M), f.f c e m = .ok v m' → m' = m) : OpMono P f := fun c e m0 m hm v m' e' => by rw [h c e m v m' e']; exact hm

theorem genOp_mono (o : Oper) {D : Nat} : OpMono P (genOp P o (D := D)) := fun _c _e _m0 _m hm => MonoR.iff (MonoR.backN hm) (.fail _)

theorem okPtr_mono {id : Nat} (h : Mono P m0 m) : MonoR P m0 (okPtr id m) := .ok h
theorem okSlc_mono {a b id : Nat} (h : Mono P m0 m) : MonoR P m0 (okSlc a b id m) := .ok h
theorem okN_mono {n : Nat} (h : Mono P m0 m) : MonoR P m0 (okN n m) := .num fun _ => .ok h
theorem okU_mono (h : Mono P m0 m) : MonoR P m0 (okU m) := .ok h
theorem okTV_mono {v : TV} (h : Mono P m0 m) : MonoR P m0 (okTV m v) := by cases v <;> exact .ok h
theorem ofCells_mono {b : Bool} {l : List CV} (h : Mono P m0 m) : MonoR P m0 (ofCells b l m) := fun v m' e => by
  obtain ⟨rfl, _⟩ := ofCells_ok e; exact h

theorem allocD_mono {t : TypeId} {D : Nat} : OpMono P (allocD P t (D := D)) := by
  unfold allocD; split
  · exact fun c e m0 m hm => .fresh hm (.fail _) fun _ _ h => okPtr_mono h
  · exact .no

theorem boxD_mono {t : TypeId} {x : Operand} {D : Nat} : OpMono P (boxD P t x (D := D)) := fun c e m0 m hm => by
  show MonoR P m0 (boxA t ((evO P x).f e) m)
  unfold boxA; split
  · exact .fresh hm (.fail _) fun _ _ h => okPtr_mono h
  · exact .num fun _ => .rowOf (.fail _) fun _ => .fresh hm (.fail _) fun _ _ h => okPtr_mono h
  · exact .fail _

theorem loadD_mono {t : TypeId} {x : Operand} {D : Nat} : OpMono P (loadD P t x (D := D)) := by
  unfold loadD; split
  · rw [iff_eq]; split
    · intro c e m0 m hm v m' h
      rename_i agg s _ _ _
      have h : loadA P agg s ((evO P x).f e) m = .ok v m' := h
      obtain ⟨id, off, _, h⟩ := loadA_ok h
      obtain ⟨rm, hrm, _, h⟩ := look_ok h
      obtain ⟨el, n, sz, opn, fz, d, tr, _, _, h⟩ := loadRow_ok h
      have hm' : m' = ⟨m.H, m.nx, rm, m.wm, m.dfs⟩ := by
        cases agg with
        | true => exact loadAgg_m h
        | false => exact loadOne_m h
      rw [hm']
      exact hm.trans (Mono.marks' m _ hrm)
    · exact .no
  · exact .no

theorem storeRow_mono {id off s : Nat} {l : List CV} {ob : Ob} (hm : Mono P m0 m) : MonoR P m0 (storeRow P id off s l ob m) := fun v m' h => by
  obtain ⟨el, n, sz, opn, fz, d, tr, tr', _, _, _, _, hg, hid, _, rfl, _⟩ := storeRow_ok h
  exact hm.trans (Mono.upd m hg hid _ _ (Nat.min_le_left _ _) (Nat.min_le_left _ _) (Nat.min_le_right _ _) (fun h => by omega))

theorem storeD_mono {t : TypeId} {x y : Operand} {D : Nat} : OpMono P (storeD P t x y (D := D)) := by
  unfold storeD; split
  · intro c e m0 m hm
    rename_i s _
    show MonoR P m0 (storeA P s ((evO P x).f e) ((evO P y).f e) m)
    unfold storeA; split
    · refine .cellsA (.fail _) fun l => ?_
      unfold storeR; split
      · exact .look hm fun _ _ h => storeRow_mono h
      · exact .fail _
    · exact .fail _
  · exact .no

theorem layParts_mono {D : Nat} {e : NT D AV} {w : List Nat} {k : List CV → RO} (hk : ∀ l, MonoR P m0 (k l)) : ∀ (ps : List Part) (cs : List CV), MonoR P m0 ((layParts P (.fail w) ps).f e cs k)
  | [], cs => hk cs
  | p :: ps, cs => by
    show MonoR P m0 (cellsA ((evO P p.x).f e) (.fail w) fun vs => iff (Nat.beq vs.length p.sz) (spl (.fail w) p.off vs cs fun cs => (layParts P (.fail w) ps).f e cs k) (.fail w))
    exact .cellsA (.fail _) fun vs => .iff (.spl (.fail _) fun l => layParts_mono hk ps l) (.fail _)

theorem buildD_mono {t : TypeId} {ps : Array (Nat × Operand)} {D : Nat} : OpMono P (buildD P t ps (D := D)) := by
  unfold buildD; split
  · unfold buildS; split
    · exact fun c e m0 m hm => layParts_mono (fun l => .ok hm) _ _
    · exact .no
  · unfold buildR; split
    · exact fun c e m0 m hm => layParts_mono (fun l => .ok hm) _ _
    · exact .no
  · exact .no

theorem buildSliceD_mono {t : TypeId} {n : Nat} {ps : Array (Nat × Operand)} {D : Nat} : OpMono P (buildSliceD P t n ps (D := D)) := by
  unfold buildSliceD; split
  · split
    · unfold buildSliceL; rw [iff_eq]; split
      · exact fun c e m0 m hm => layParts_mono (fun l => .rowOf (.fail _) fun _ => .fresh hm (.fail _) fun _ _ h => okSlc_mono h) _ _
      · exact .no
    · exact .no
  · exact .no

theorem fieldD_mono {t : TypeId} {x : Operand} {f : Nat} {D : Nat} : OpMono P (fieldD P t x f (D := D)) := by
  unfold fieldD; split
  · split
    · unfold fieldF; split
      · rw [iff_eq]; split
        · intro c e m0 m hm
          show MonoR P m0 (fieldA _ _ _ _ m)
          unfold fieldA; split
          · exact .sub (.fail _) fun _ => ofCells_mono hm
          · exact .fail _
        · exact .no
      · exact .no
    · exact .no
  · exact .no

theorem fieldAddrD_mono {t : TypeId} {x : Operand} {f : Nat} {D : Nat} : OpMono P (fieldAddrD P t x f (D := D)) := by
  unfold fieldAddrD; split
  · split
    · unfold fieldAddrF; split
      · intro c e m0 m hm
        show MonoR P m0 (fieldAt _ _ m)
        unfold fieldAt; split
        · exact .num fun _ => .ok hm
        · exact .fail _
      · exact .no
    · exact .no
  · exact .no

theorem addrN_mono {id off len es i : Nat} (hm : Mono P m0 m) : MonoR P m0 (addrN id off len es m i) := .iff (.num fun _ => .ok hm) (.fail _)

theorem indexAddrD_mono {t : TypeId} {x i : Operand} {D : Nat} : OpMono P (indexAddrD P t x i (D := D)) := by
  unfold indexAddrD; split
  · split
    · intro c e m0 m hm
      rename_i es _
      show MonoR P m0 (idxSlc es ((evO P x).f e) ((evO P i).f e) m)
      unfold idxSlc; split
      · exact .natOf (.fail _) fun _ => addrN_mono hm
      · exact .natOf (.fail _) fun _ => addrN_mono hm
      · exact .fail _
    · exact .no
  · split
    · intro c e m0 m hm
      rename_i len elem _ _ es _
      show MonoR P m0 (idxArr len es ((evO P x).f e) ((evO P i).f e) m)
      unfold idxArr; split
      · exact .natOf (.fail _) fun _ => addrN_mono hm
      · exact .fail _
    · exact .no
  · exact .no

theorem nth_mono {l : List Nat} {i : Nat} {bad : RO} {k : Nat → RO} (hb : MonoR P m0 bad) (hk : ∀ n, MonoR P m0 (k n)) : MonoR P m0 (nth bad l i k) := by
  rw [nth_eq]; split
  · exact hk _
  · exact hb

theorem indexD_mono {t : TypeId} {x i : Operand} {D : Nat} : OpMono P (indexD P t x i (D := D)) := by
  unfold indexD; split
  · intro c e m0 m hm
    show MonoR P m0 (idxStr ((evO P x).f e) ((evO P i).f e) m)
    unfold idxStr; split
    · exact .natOf (.fail _) fun _ => nth_mono (.fail _) fun _ => .ok hm
    · exact .fail _
  · split
    · rw [iff_eq]; split
      · intro c e m0 m hm
        show MonoR P m0 (idxAgg _ _ _ _ _ m)
        unfold idxAgg; split
        · exact .natOf (.fail _) fun _ => .iff (.sub (.fail _) fun _ => ofCells_mono hm) (.fail _)
        · exact .fail _
      · exact .no
    · exact .no
  · exact .no

theorem extractD_mono {x : Operand} {i : Nat} {D : Nat} : OpMono P (extractD P x i (D := D)) := fun c e m0 m hm => by
  show MonoR P m0 (extractA i ((evO P x).f e) m)
  unfold extractA; split
  · rw [nthT_eq]; split
    · exact .ok hm
    · exact .fail _
  · exact .fail _

theorem moveD_mono {x : Operand} {D : Nat} : OpMono P (moveD P x (D := D)) := fun c e m0 m hm => by
  show MonoR P m0 (forceA _ m)
  rw [forceA_eq]; exact .ok hm

theorem pickD_mono {b x y : Operand} {D : Nat} : OpMono P (pickD P b x y (D := D)) := fun c e m0 m hm => by
  show MonoR P m0 (pickA _ _ _ m)
  unfold pickA; split
  · rw [forceA_eq, forceA_eq]; exact .iff (.ok hm) (.ok hm)
  · exact .fail _

theorem nilCheckD_mono {x : Operand} {D : Nat} : OpMono P (nilCheckD P x (D := D)) := fun c e m0 m hm => by
  show MonoR P m0 (nilCheckA _ m)
  unfold nilCheckA; split <;> first | exact .ok hm | exact .fail _

theorem unD_mono {o : Oper} {op : UnOp} {x : Operand} {D : Nat} : OpMono P (unD P o op x (D := D)) := by
  unfold unD; split
  · intro c e m0 m hm
    show MonoR P m0 (notA _ m)
    unfold notA; split
    · exact .iff (.ok hm) (.ok hm)
    · exact .fail _
  · exact genOp_mono o

theorem okB_mono {b : Bool} (hm : Mono P m0 m) : MonoR P m0 (okB b m) := by rw [okB_eq]; exact .ok hm

theorem genInt_mono {op : BinOp} {k : IntKind} {x y : Int} (hm : Mono P m0 m) : MonoR P m0 (genInt P op k x y m) := MonoR.backN hm

theorem wrapI_mono {k : IntKind} {n : Int} (hm : Mono P m0 m) : MonoR P m0 (wrapI k n m) := by rw [wrapI_eq]; exact .ok hm
theorem wrapNat_mono {k : IntKind} {n : Nat} (hm : Mono P m0 m) : MonoR P m0 (wrapNat k n m) := by rw [wrapNat_eq]; exact .ok hm

theorem nat2_mono {x y : Int} {k : Nat → Nat → RO} {no : RO} (hk : ∀ a b, MonoR P m0 (k a b)) (hn : MonoR P m0 no) : MonoR P m0 (nat2 x y k no) := by
  rcases nat2_ok (x := x) (y := y) (k := k) (no := no) rfl with ⟨a, b, _, _, h⟩ | h
  · rw [← h]; exact hk a b
  · rw [← h]; exact hn

theorem intF_mono {op : BinOp} {k : IntKind} {x y : Int} (hm : Mono P m0 m) : MonoR P m0 ((intF P op).f k x y m) := by
  cases op with
  | add => exact wrapI_mono hm
  | sub => exact wrapI_mono hm
  | mul => exact wrapI_mono hm
  | eql => exact okB_mono hm
  | neq => exact okB_mono hm
  | lss => exact okB_mono hm
  | leq => exact okB_mono hm
  | gtr => exact okB_mono hm
  | geq => exact okB_mono hm
  | and => exact nat2_mono (fun a b => .iff (.num fun _ => wrapNat_mono hm) (genInt_mono hm)) (genInt_mono hm)
  | or => exact nat2_mono (fun a b => .iff (.num fun _ => wrapNat_mono hm) (genInt_mono hm)) (genInt_mono hm)
  | xor => exact nat2_mono (fun a b => .iff (.num fun _ => wrapNat_mono hm) (genInt_mono hm)) (genInt_mono hm)
  | andNot => exact nat2_mono (fun a b => .iff (.num fun _ => wrapNat_mono hm) (genInt_mono hm)) (genInt_mono hm)
  | quo => exact nat2_mono (fun a b => .iff (.num fun _ => wrapNat_mono hm) (.fail _)) (genInt_mono hm)
  | rem => exact nat2_mono (fun a b => .iff (.num fun _ => .ok hm) (.fail _)) (genInt_mono hm)
  | _ => exact genInt_mono hm

theorem strF_mono {op : BinOp} {s t : List Nat} (hm : Mono P m0 m) : MonoR P m0 ((strF op).f s t m) := by
  cases op with
  | add =>
    refine .iff ?_ (.fail _)
    rw [strApp_eq]; exact .ok hm
  | eql => exact okB_mono hm
  | neq => exact okB_mono hm
  | lss => exact okB_mono hm
  | leq => exact okB_mono hm
  | gtr => exact okB_mono hm
  | geq => exact okB_mono hm
  | _ => exact .fail _

theorem refEq_mono {psz : Bool} {t : Option TypeDesc} {a b : RV} {n : Bool} (hm : Mono P m0 m) : MonoR P m0 (refEq psz t a b n m) := by
  unfold refEq; split <;> first | exact okB_mono hm | exact .fail _ | exact .iff (okB_mono hm) (.fail _)

theorem binC_mono {op : BinOp} {g : RO} {B : BinF} (hi : B.int = intF P op) (hs : B.str = strF op) {v w : CV} (hm : Mono P m0 m) (hg : MonoR P m0 g) : MonoR P m0 (binC g B v w m) := by
  cases v with
  | int k a =>
    cases w with
    | int k' b =>
      refine MonoR.iff ?_ (.fail _)
      rw [hi]; exact intF_mono hm
    | _ => exact .fail _
  | bool a =>
    show MonoR P m0 (binBool B a w m)
    unfold binBool; split
    · split
      · split
        · exact okB_mono hm
        · exact .fail _
      · exact .fail _
    · exact .fail _
  | str a =>
    cases w with
    | str b =>
      show MonoR P m0 (B.str.f a b m)
      rw [hs]; exact strF_mono hm
    | _ => exact .fail _
  | ref a =>
    show MonoR P m0 (binRef g B a w m)
    unfold binRef; split
    · refine .iff hg ?_
      split
      · exact refEq_mono hm
      · exact .fail _
    · exact .fail _

theorem bin0_mono {g : RO} {op : BinOp} {t : TypeId} {v w : AV} (hm : Mono P m0 m) (hg : MonoR P m0 g) : MonoR P m0 (bin0 g (binB P op t) v w m) := by
  cases v with
  | c v =>
    cases w with
    | c w => exact binC_mono (P := P) (op := op) rfl rfl hm hg
    | _ => exact .fail _
  | agg a =>
    show MonoR P m0 (binA g (binB P op t) a w m)
    unfold binA; split
    · unfold binAgg; split
      · split
        · unfold aggEq; split
          · exact okB_mono hm
          · exact .fail _
        · exact hg
      · exact hg
    · exact .fail _
  | _ => exact .fail _

theorem sh0_mono {b : Bool} {v w : AV} (hm : Mono P m0 m) : MonoR P m0 (sh0 b v w m) := by
  unfold sh0; split
  · unfold shK; split
    · refine nat2_mono (fun a b' => ?_) (.fail _)
      cases b
      · exact .num fun _ => .ok hm
      · exact .num fun _ => wrapNat_mono hm
    · exact .fail _
  · exact .fail _

theorem binD_mono {o : Oper} {op : BinOp} {t : TypeId} {x y : Operand} {D : Nat} : OpMono P (binD P o op t x y (D := D)) := by
  unfold binD; split
  · exact fun c e m0 m hm => sh0_mono hm
  · exact fun c e m0 m hm => sh0_mono hm
  · exact fun c e m0 m hm => bin0_mono hm (genOp_mono o c e m0 m hm)

theorem rowCells_mono {off s : Nat} {bad : List Nat} {k : List CV → M → RO} {ob : Ob} (hk : ∀ l, MonoR P m0 (k l m)) : MonoR P m0 (rowCells (.fail bad) off s k ob m) := by
  unfold rowCells; split
  · exact .iff (.takeCells (.fail _) fun l => hk l) (.fail _)
  · exact .fail _

theorem okStr_mono {l : List CV} (hm : Mono P m0 m) : MonoR P m0 (okStr l m) := by
  unfold okStr
  rcases cellBytes_ok (RO.fail [82]) l (fun s => .ok (.c (.str s)) m) with h | ⟨s, h, _⟩
  · rw [h]; exact .fail _
  · rw [h]; exact .ok hm

theorem convertD_mono {o : Oper} {s t : TypeId} {x : Operand} {D : Nat} : OpMono P (convertD P o s t x (D := D)) := by
  unfold convertD; split
  · intro c e m0 m hm
    show MonoR P m0 (convInt _ _ m)
    unfold convInt; split
    · exact wrapI_mono hm
    · exact .fail _
  · intro c e m0 m hm
    show MonoR P m0 (convStr _ m)
    unfold convStr; split
    · exact .ok hm
    · exact .fail _
  · split
    · intro c e m0 m hm
      show MonoR P m0 (convBytes _ _ m)
      unfold convBytes; split
      · rw [byteCells_eq, bare_eq]
        exact .num fun _ => .iff (.num fun _ => .bld fun _ _ => .fresh hm (.fail _) fun _ _ h => okSlc_mono h) (.fail _)
      · exact .fail _
    · exact .no
  · split
    · intro c e m0 m hm
      show MonoR P m0 (convText P _ m)
      unfold convText; split
      · exact .ok hm
      · exact .ok hm
      · exact .look hm fun _ _ h => rowCells_mono fun _ => okStr_mono h
      · exact .fail _
    · exact .no
  · split
    · rw [iff_eq]; split
      · intro c e m0 m hm
        show MonoR P m0 (toSame P _ m)
        unfold toSame; split
        · exact .look hm fun _ _ h => by
            unfold sameOb; split
            · exact .iff (.turn h (.fail _) fun _ h => .ok h) (.fail _)
            · exact .fail _
        · exact .fail _
      · exact .no
    · exact .no
  · split
    · intro c e m0 m hm
      show MonoR P m0 (toUns P _ m)
      unfold toUns; split
      · exact .ok hm
      · exact .look hm fun _ _ h => by
          unfold unsOb; split
          · exact .iff (.ok h) (.fail _)
          · exact .fail _
      · exact .fail _
    · exact .no
  · split
    · intro c e m0 m hm
      show MonoR P m0 (fromUns P _ _ m)
      unfold fromUns; split
      · exact .ok hm
      · exact .look hm fun _ _ h => by
          unfold backOb; split
          · exact .iff (.ok h) (.fail _)
          · exact .fail _
      · exact .fail _
    · exact .no
  · exact genOp_mono o

theorem ptrs_mono {D : Nat} {e : NT D AV} {k : List (Nat × Nat) → RO} (hk : ∀ l, MonoR P m0 (k l)) : ∀ (l : List Operand) , MonoR P m0 ((ptrs P l).f e k) := by
  intro l
  induction l generalizing k with
  | nil => exact hk _
  | cons x r ih =>
    show MonoR P m0 (match (evO P x).f e with
      | .c (.ref (.ptr id off)) => (ptrs P r).f e fun l => k ((id, off) :: l)
      | _ => .fail [85])
    split
    · exact ih fun l => hk _
    · exact .fail _

theorem makeFuncD_mono {fn : Fn} {a b : Array Operand} {D : Nat} : OpMono P (makeFuncD P fn a b (D := D)) := by
  unfold makeFuncD; split
  · exact fun c e m0 m hm => ptrs_mono (fun _ => ptrs_mono (fun _ => .ok hm) _) _
  · exact .no

theorem makeMapD_mono {t : TypeId} {r : Option Operand} {D : Nat} : OpMono P (makeMapD P t r (D := D)) := by
  unfold makeMapD; split
  · exact fun c e m0 m hm => .fresh hm (.fail _) fun _ _ h => .ok h
  · split
    · intro c e m0 m hm
      show MonoR P m0 (hintA _ m)
      unfold hintA; split
      · exact .fresh hm (.fail _) fun _ _ h => .ok h
      · exact .fail _
    · exact .no

theorem makeSliceD_mono {t : TypeId} {l c : Operand} {D : Nat} : OpMono P (makeSliceD P t l c (D := D)) := by
  unfold makeSliceD; split
  · split
    · unfold makeSliceL; rw [iff_eq]; split
      · exact fun c e m0 m hm => .natOf (.fail _) fun _ => .natOf (.fail _) fun _ => .iff (.rowOf (.fail _) fun _ => .fresh hm (.fail _) fun _ _ h => okSlc_mono h) (.fail _)
      · exact .no
    · exact .no
  · exact .no

theorem findG_mono {ks : Option (List Nat)} {key : TV} {w : List Nat} {no : RO} {yes : Nat → TV → RO} (hn : MonoR P m0 no) (hy : ∀ i v, MonoR P m0 (yes i v)) : ∀ (es : List MapE) (i : Nat), MonoR P m0 (findG (.fail w) ks key no yes es i)
  | [], _ => hn
  | x :: es, i => by
    show MonoR P m0 (stepM (.fail w) (sameK ks key x.key) (yes i x.val) (findG (.fail w) ks key no yes es (i + 1)))
    unfold stepM; split
    · exact .fail _
    · exact .iff (hy _ _) (findG_mono hn hy es _)

theorem findM_eq {β : Type} (bad : β) (ks : Option (List Nat)) (key : TV) (es : List MapE) (no : β) (yes : Nat → TV → β) : findM bad ks key es no yes = findG bad ks key no yes es 0 := rfl

theorem okFound_mono {a b : Bool} {v : TV} (hm : Mono P m0 m) : MonoR P m0 (okFound a b m v) := by
  unfold okFound; split
  · exact .ok hm
  · exact okTV_mono hm

theorem lookupM_mono {ks : Option (List Nat)} {z : TV} {ok : Bool} {key : TV} {es : List MapE} (hm : Mono P m0 m) : MonoR P m0 (lookupM ks z ok key es m) := by
  unfold lookupM
  rw [findM_eq]
  exact findG_mono (okFound_mono hm) (fun _ _ => okFound_mono hm) es 0

theorem lookupD_mono {t : TypeId} {x i : Operand} {ok : Bool} {D : Nat} : OpMono P (lookupD P t x i ok (D := D)) := by
  unfold lookupD; split
  · split
    · intro c e m0 m hm
      dsimp only
      refine MonoR.keyOf (.fail _) fun key => ?_
      refine .iff ?_ (.fail _)
      unfold lookupR; split
      · exact lookupM_mono hm
      · refine .look hm fun ob m1 h => ?_
        unfold lookupOb; split
        · exact lookupM_mono h
        · exact .fail _
      · exact .fail _
    · exact .no
  · exact .no

theorem mapUpdateD_mono {t : TypeId} {x i y : Operand} {D : Nat} : OpMono P (mapUpdateD P t x i y (D := D)) := by
  unfold mapUpdateD; split
  · intro c e m0 m hm
    dsimp only
    refine MonoR.keyOf (.fail _) fun key => ?_
    refine .iff ?_ (.fail _)
    unfold updR; split
    · refine .tvOf (.fail _) fun val => .look hm fun ob m1 h => ?_
      unfold updOb; split
      · rw [findM_eq]
        refine findG_mono ?_ ?_ _ 0
        · rw [pushM_eq]; exact .num fun _ => .turn h (.fail _) fun _ h => okU_mono h
        · intro i v; rw [setM_eq]; exact .turn h (.fail _) fun _ h => okU_mono h
      · exact .fail _
    · exact .fail _
  · exact .no

theorem bound_mono {x : Option Operand} {n : Nat} {D : Nat} {e : NT D AV} {k : Nat → RO} (hk : ∀ n, MonoR P m0 (k n)) : MonoR P m0 (bound P x n e k) := by
  unfold bound; split
  · exact hk _
  · exact .natOf (.fail _) hk

theorem okShut_mono {a b c d : Nat} {ob : Ob} (hm : Mono P m0 m) : MonoR P m0 (okShut a b c d ob m) := fun v m' e => by
  obtain ⟨rfl, _⟩ := okShut_ok e; exact hm

theorem sliceD_mono {t : TypeId} {x : Operand} {lo hi mx : Option Operand} {D : Nat} : OpMono P (sliceD P t x lo hi mx (D := D)) := by
  unfold sliceD; rw [iff_eq]; split
  · exact .no
  · split
    · split
      · intro c e m0 m hm
        show MonoR P m0 (slStr P lo hi e _ m)
        unfold slStr; split
        · refine .num fun _ => bound_mono fun _ => bound_mono fun _ => .iff ?_ (.fail _)
          unfold cut; rw [forceStr_eq]; exact .ok hm
        · exact .fail _
      · exact .no
    · split
      · intro c e m0 m hm
        show MonoR P m0 (slSlc P _ lo hi mx e _ m)
        unfold slSlc; split
        · refine .iff (bound_mono fun _ => bound_mono fun _ => .iff (.num fun _ => .num fun _ => .num fun _ => .ok hm) (.iff (.ok hm) (.fail _))) (bound_mono fun _ => bound_mono fun _ => bound_mono fun _ => .iff (.num fun _ => .num fun _ => .num fun _ => ?_) ?_)
          · split
            · exact .ok hm
            · exact .look hm fun _ _ h => okShut_mono h
          · refine .iff ?_ (.fail _)
            split <;> exact .ok hm
        · exact bound_mono fun _ => bound_mono fun _ => bound_mono fun _ => .iff (.ok hm) (.fail _)
        · split
          · exact bound_mono fun _ => bound_mono fun _ => .iff (.ok hm) (.fail _)
          · exact .fail _
        · refine bound_mono fun _ => bound_mono fun _ => bound_mono fun _ => ?_
          unfold slxCut
          exact .iff (.num fun _ => .num fun _ => .num fun _ => .ok hm) (.iff (.ok hm) (.fail _))
        · exact bound_mono fun _ => bound_mono fun _ => bound_mono fun _ => .iff (.ok hm) (.fail _)
        · exact .fail _
      · exact .no
    · split
      · intro c e m0 m hm
        show MonoR P m0 (slArr P _ _ lo hi mx e _ m)
        unfold slArr; split
        · exact bound_mono fun _ => bound_mono fun _ => bound_mono fun _ => .iff (.num fun _ => .num fun _ => .num fun _ => .look hm fun _ _ h => okShut_mono h) (.fail _)
        · exact .fail _
      · exact .no
    · exact .no

theorem lenD_mono {t : TypeId} {x : Operand} {D : Nat} : OpMono P (lenD P t x (D := D)) := by
  unfold lenD; split
  · intro c e m0 m hm
    show MonoR P m0 (lenStr _ m)
    unfold lenStr; split
    · exact okN_mono hm
    · exact .fail _
  · exact fun c e m0 m hm => okN_mono hm
  · intro c e m0 m hm
    show MonoR P m0 (lenSlc _ m)
    unfold lenSlc; split
    · exact okN_mono hm
    · exact okN_mono hm
    · exact okN_mono hm
    · exact okN_mono hm
    · exact okN_mono hm
    · exact .fail _
  · intro c e m0 m hm
    show MonoR P m0 (lenMap P _ m)
    unfold lenMap; split
    · exact okN_mono hm
    · refine .look hm fun ob m1 h => ?_
      unfold lenOb; split
      · exact okN_mono h
      · exact .fail _
    · exact .fail _
  · exact .no

theorem srcCells_mono {w : List Nat} {s : Nat} {v : AV} {k : Nat → List CV → M → RO} (hm : Mono P m0 m) (hk : ∀ n l m1, Mono P m0 m1 → MonoR P m0 (k n l m1)) : MonoR P m0 (srcCells P (.fail w) s v m k) := by
  unfold srcCells; split
  · exact hk _ _ _ hm
  · exact hk _ _ _ hm
  · exact .num fun _ => .look hm fun _ _ h => rowCells_mono fun _ => hk _ _ _ h
  · exact .num fun _ => .look hm fun _ _ h => rowCells_mono fun _ => hk _ _ _ h
  · exact hk _ _ _ hm
  · refine .iff ?_ (.fail _)
    rw [byteCells_eq]; exact .num fun _ => hk _ _ _ hm
  · exact .fail _

theorem killK_mono {opn : Bool} {id fz lim : Nat} {k : M → RO} (hm : Mono P m0 m) (hk : ∀ m1, Mono P m0 m1 → MonoR P m0 (k m1)) : MonoR P m0 (killK P opn id fz lim m k) := by
  unfold killK; split
  · exact .iff (.turn hm (.fail _) hk) (.fail _)
  · exact hk _ hm

theorem appendNew_mono {elem id off cap sz need len : Nat} {l : List CV} {ob : Ob} (h : Mono P m0 m) : MonoR P m0 (appendNew P elem id off cap sz need len l ob m) := by
  unfold appendNew; split
  · refine .iff (.num fun _ => .num fun _ => killK_mono h fun m2 h => .iff ?_ ?_) (.fail _)
    · unfold appendOn
      obtain ⟨d', t', h1, _⟩ := growT_ok _ _ _ _
      rw [h1]
      refine .iff (.pieces (.fail _) fun ps => ?_) (.fail _)
      rw [layPs_eq]
      exact .num fun _ => .fresh h (.fail _) fun _ _ h => okSlc_mono h
    · unfold appendCopy
      refine .takeCells (.fail _) fun old => ?_
      rw [appC_eq]
      exact .pieces (.fail _) fun ps => .num fun _ => .bld fun _ _ => .num fun _ => .fresh h (.fail _) fun _ _ h => okSlc_mono h
  · exact .fail _

theorem appendTo_mono {elem s n : Nat} {v : AV} {l : List CV} (hm : Mono P m0 m) : MonoR P m0 (appendTo P elem s v n l m) := by
  unfold appendTo; split
  · refine .iff (.ok hm) ?_
    unfold appendNil
    exact .iff (.num fun _ => .num fun _ => .pieces (.fail _) fun _ => .bld fun _ _ => .fresh hm (.fail _) fun _ _ h => okSlc_mono h) (.fail _)
  · refine .iff (.iff (.ok hm) (.fail _)) (.num fun _ => .iff (.look hm fun ob m1 h => ?_) (.fail _))
    unfold appendRow
    refine .iff ?_ ?_
    · unfold appendIn; split
      · exact .iff (.num fun _ => .layCells rfl (.fail _) fun _ => .turn h (.fail _) fun _ h => .ok h) (.fail _)
      · exact .fail _
    · exact appendNew_mono h
  · refine .iff (.iff (.ok hm) (.fail _)) (.num fun _ => .iff (.look hm fun ob m1 h => ?_) (.fail _))
    unfold appendShut; split
    · exact .iff (.fail _) (appendNew_mono h)
    · exact .fail _
  · refine .iff (.ok hm) ?_
    unfold appendNil
    exact .iff (.num fun _ => .num fun _ => .pieces (.fail _) fun _ => .bld fun _ _ => .fresh hm (.fail _) fun _ _ h => okSlc_mono h) (.fail _)
  · exact .fail _

theorem appendD_mono {ts : Array TypeId} {x y : Operand} {D : Nat} : OpMono P (appendD P ts x y (D := D)) := by
  have main : ∀ e, OpMono P (appendE P e x y (D := D)) := fun e => by
    unfold appendE; split
    · unfold appendL; rw [iff_eq]; split
      · exact fun c e m0 m hm => srcCells_mono hm fun _ _ _ h => appendTo_mono h
      · exact .no
    · exact .no
  unfold appendD; split
  · split
    · exact main _
    · exact main _
    · exact .no
  · exact .no

theorem copyD_mono {ts : Array TypeId} {x y : Operand} {D : Nat} : OpMono P (copyD P ts x y (D := D)) := by
  unfold copyD; split
  · split
    · unfold copyL; split
      · refine fun c e m0 m hm => srcCells_mono hm fun n l m1 h => ?_
        unfold copyTo; split
        · exact okN_mono h
        · unfold minK
          refine .iff ?_ ?_ <;>
          · refine .num fun _ => ?_
            rw [takeL_eq]
            refine .look h fun ob m2 h => fun v m' hd => ?_
            unfold copyDone at hd
            split at hd
            · rename_i v1 m3 hs
              exact okN_mono (storeRow_mono h v1 m3 hs) v m' hd
            · cases hd
        · exact .fail _
      · exact .no
    · exact .no
  · exact .no

theorem builtinD_mono {o : Oper} {b : Builtin} {args : Array Operand} {ts : Array TypeId} {D : Nat} : OpMono P (builtinD P o b args ts (D := D)) := by
  unfold builtinD; split
  · split
    · unfold capD; split
      · intro c e m0 m hm
        show MonoR P m0 (capA _ m)
        unfold capA; split
        · exact okN_mono hm
        · exact .ok hm
        · exact okN_mono hm
        · exact .fail _
      · exact genOp_mono o
    · exact .no
  · intro c e m0 m hm
    show MonoR P m0 (dataPtr _ m)
    unfold dataPtr; split
    · exact .ok hm
    · exact .iff (.ok hm) (.fail _)
    · exact .fail _
  · unfold dataTextD; split
    · split
      · rw [iff_eq]; split
        · intro c e m0 m hm
          show MonoR P m0 (dataText P _ _ _ m)
          unfold dataText; split
          · split
            · exact .ok hm
            · exact .ok hm
            · exact .fail _
          · split
            · refine .iff (.look hm fun ob m1 h1 => ?_) (.fail _)
              unfold dataStr; split
              · refine .iff (.takeCells (.fail _) fun l => ?_) (.fail _)
                rcases cellBytes_ok (RO.fail [252]) l (fun s => forceStr s fun s => num _ fun fz => turn P _ (.row _ _ _ _ fz _ _) m1 (.fail [252]) fun m => .ok (.c (.str s)) m) with h2 | ⟨s, h2, _⟩
                · rw [h2]; exact .fail _
                · rw [h2, forceStr_eq]
                  exact .num fun _ => .turn h1 (.fail _) fun _ h => .ok h
              · exact .fail _
            · exact .fail _
          · exact .fail _
        · exact .no
      · exact .no
    · exact .no
  · split
    · exact lenD_mono
    · exact .no
  · exact appendD_mono
  · exact copyD_mono
  all_goals first | exact .no | exact genOp_mono o

end Go.CE
