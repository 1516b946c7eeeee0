/- The evaluator, part 4. -/
import Derived.Test.YtljkifkamnbbaaaGreatDoorCe3
import Derived.KernelRfl
import Derived.RangeFuncNested
import Derived.OrdersIn
import Derived.LoopNIn
import Derived.Orders
/- Numbers only grow, marks only sink. No program is named. -/
noncomputable section WO
namespace Go.CE
open Go

variable {P : Program} {m0 m m' m'' : M}

structure Mono (P : Program) (m m' : M) : Prop where
  nx : m.nx ≤ m'.nx
  rm : m'.rm ≤ m.rm
  wm : m'.wm ≤ m.wm
  cap : m.nx ≤ capN hd → m'.nx ≤ capN hd
  keep : m.nx ≤ capN hd → ∀ id, id < m.nx → id < m'.wm → obj m'.H id = obj m.H id
  glo : m.nx ≤ capN hd → ∀ id, id < m.nx → id < glb P → obj m'.H id = obj m.H id
  wf : WF P m → WF P m'
  rw' : m.rm ≤ m.wm → m'.rm ≤ m'.wm

theorem Mono.refl (m : M) : Mono P m m := ⟨Nat.le_refl _, Nat.le_refl _, Nat.le_refl _, fun h => h, fun _ _ _ _ => rfl, fun _ _ _ _ => rfl, fun h => h, fun h => h⟩
theorem Mono.trans (h : Mono P m m') (h' : Mono P m' m'') : Mono P m m'' := ⟨Nat.le_trans h.nx h'.nx, Nat.le_trans h'.rm h.rm, Nat.le_trans h'.wm h.wm, fun hc => h'.cap (h.cap hc),
  fun hc id h1 h2 => by rw [h'.keep (h.cap hc) id (Nat.lt_of_lt_of_le h1 h.nx) h2, h.keep hc id h1 (Nat.lt_of_lt_of_le h2 h'.wm)],
  fun hc id h1 h2 => by rw [h'.glo (h.cap hc) id (Nat.lt_of_lt_of_le h1 h.nx) h2, h.glo hc id h1 h2],
  fun hw => h'.wf (h.wf hw), fun hw => h'.rw' (h.rw' hw)⟩
theorem Mono.marks (m : M) {rm wm : Nat} (dfs : List Nat) (h1 : rm ≤ m.rm) (h2 : wm ≤ m.wm) (h3 : m.rm ≤ m.wm → rm ≤ wm) : Mono P m ⟨m.H, m.nx, rm, wm, dfs⟩ := ⟨Nat.le_refl _, h1, h2, fun h => h, fun _ _ _ _ => rfl, fun _ _ _ _ => rfl, fun h => ⟨h.gnx, h.cap, h.dead⟩, h3⟩
theorem Mono.marks' (m : M) {rm : Nat} (dfs : List Nat) (h1 : rm ≤ m.rm) : Mono P m ⟨m.H, m.nx, rm, m.wm, dfs⟩ := Mono.marks m dfs h1 (Nat.le_refl _) fun h => Nat.le_trans h1 h
theorem Mono.upd (m : M) {id : Nat} (hg : glb P ≤ id) (hid : id < m.nx) (ob : Ob) {rm wm : Nat} (dfs : List Nat) (h1 : rm ≤ m.rm) (h2 : wm ≤ m.wm) (h3 : wm ≤ id) (h4 : m.rm ≤ m.wm → rm ≤ wm) : Mono P m ⟨updN hd id m.H ob, m.nx, rm, wm, dfs⟩ :=
  ⟨Nat.le_refl _, h1, h2, fun h => h, fun hc j hj hjw => by
    show obj (updN hd id m.H ob) j = _
    have hjw : j < wm := hjw
    rw [obj_upd (by omega) (by omega), if_neg (by omega)], fun hc j hj hjg => by
    show obj (updN hd id m.H ob) j = _
    rw [obj_upd (by omega) (by omega), if_neg (by omega)], fun hw => ⟨hw.gnx, hw.cap, fun j hj hjc => by
    show obj (updN hd id m.H ob) j = _
    have hj : m.nx ≤ j := hj
    rw [obj_upd (by have := hw.cap; omega) hjc, if_neg (by omega)]
    exact hw.dead j hj hjc⟩, h4⟩
theorem Mono.upd' (m : M) {id : Nat} (hg : glb P ≤ id) (hid : id < m.nx) (ob : Ob) {rm : Nat} (dfs : List Nat) (hrm : rm ≤ m.rm) : Mono P m ⟨updN hd id m.H ob, m.nx, min rm id, min m.wm id, dfs⟩ :=
  Mono.upd m hg hid ob dfs (Nat.le_trans (Nat.min_le_left _ _) hrm) (Nat.min_le_left _ _) (Nat.min_le_right _ _) fun h => by omega
theorem Mono.new (m : M) (hnx : m.nx < capN hd) (ob : Ob) (dfs : List Nat) : Mono P m ⟨updN hd m.nx m.H ob, m.nx + 1, m.rm, m.wm, dfs⟩ :=
  ⟨Nat.le_succ _, Nat.le_refl _, Nat.le_refl _, fun _ => hnx, fun hc j hj hjw => by
    show obj (updN hd m.nx m.H ob) j = _
    rw [obj_upd (by omega) (by omega), if_neg (by omega)], fun hc j hj hjw => by
    show obj (updN hd m.nx m.H ob) j = _
    rw [obj_upd (by omega) (by omega), if_neg (by omega)], fun hw => ⟨Nat.le_succ_of_le hw.gnx, hnx, fun j hj hjc => by
    show obj (updN hd m.nx m.H ob) j = _
    have hj : m.nx + 1 ≤ j := hj
    rw [obj_upd hnx hjc, if_neg (by omega)]
    exact hw.dead j (by omega) hjc⟩, fun h => h⟩
/-- What is kept of deferred calls does not matter. -/
theorem Mono.dfs (h : Mono P m0 m) (dfs : List Nat) : Mono P m0 ⟨m.H, m.nx, m.rm, m.wm, dfs⟩ := h.trans (Mono.marks' m dfs (Nat.le_refl _))
theorem Mono.dfs' {dfs : List Nat} (h : Mono P ⟨m0.H, m0.nx, m0.rm, m0.wm, dfs⟩ m) : Mono P m0 m := ⟨h.nx, h.rm, h.wm, h.cap, h.keep, h.glo, fun hw => h.wf ⟨hw.gnx, hw.cap, hw.dead⟩, h.rw'⟩

def MonoR (P : Program) (m0 : M) (r : RO) : Prop := ∀ v m', r = .ok v m' → Mono P m0 m'

theorem MonoR.fail (k : List Nat) : MonoR P m0 (.fail k) := fun _ _ h => by cases h
theorem MonoR.ok {v : AV} (h : Mono P m0 m) : MonoR P m0 (.ok v m) := fun _ _ e => by cases e; exact h
theorem MonoR.iff {b : Bool} {x y : RO} (hx : MonoR P m0 x) (hy : MonoR P m0 y) : MonoR P m0 (iff b x y) := by cases b <;> assumption
theorem MonoR.num {n : Nat} {k : Nat → RO} (h : ∀ n, MonoR P m0 (k n)) : MonoR P m0 (num n k) := by rw [num_eq]; exact h n

theorem MonoR.look {id : Nat} {k : Ob → M → RO} (h : Mono P m0 m) (hk : ∀ ob m1, Mono P m0 m1 → MonoR P m0 (k ob m1)) : MonoR P m0 (look P id m k) := fun v m' e => by
  obtain ⟨rm, hrm, _, e⟩ := look_ok e
  exact hk _ ⟨m.H, m.nx, rm, m.wm, m.dfs⟩ (h.trans (Mono.marks' m _ hrm)) v m' e

theorem MonoR.turn {id : Nat} {ob : Ob} {bad : RO} {k : M → RO} (h : Mono P m0 m) (hb : MonoR P m0 bad) (hk : ∀ m1, Mono P m0 m1 → MonoR P m0 (k m1)) : MonoR P m0 (turn P id ob m bad k) := fun v m' e => by
  rcases turn_ok' e with e | ⟨hg, hid, e⟩
  · exact hb v m' e
  · exact hk ⟨updN hd id m.H ob, m.nx, min m.rm id, min m.wm id, m.dfs⟩ (h.trans (Mono.upd m hg hid ob _ (Nat.min_le_left _ _) (Nat.min_le_left _ _) (Nat.min_le_right _ _) (fun h => by omega))) v m' e

theorem MonoR.fresh {ob : Ob} {bad : RO} {k : Nat → M → RO} (h : Mono P m0 m) (hb : MonoR P m0 bad) (hk : ∀ n m1, Mono P m0 m1 → MonoR P m0 (k n m1)) : MonoR P m0 (fresh ob m bad k) := fun v m' e => by
  rcases fresh_ok e with e | ⟨hnx, e⟩
  · exact hb v m' e
  · exact hk m.nx ⟨updN hd m.nx m.H ob, m.nx + 1, m.rm, m.wm, m.dfs⟩ (h.trans (Mono.new m hnx ob _)) v m' e

theorem MonoR.natOf {v : AV} {bad : RO} {k : Nat → RO} (hb : MonoR P m0 bad) (hk : ∀ n, MonoR P m0 (k n)) : MonoR P m0 (natOf v bad k) := fun x m' e => by
  rcases natOf_ok e with ⟨_, n, _, e⟩ | e
  · exact hk n x m' e
  · exact hb x m' e

theorem MonoR.cellsA {v : AV} {bad : RO} {k : List CV → RO} (hb : MonoR P m0 bad) (hk : ∀ l, MonoR P m0 (k l)) : MonoR P m0 (cellsA v bad k) := by
  cases v with
  | c c => exact hk _
  | agg l => exact hk _
  | tup l => exact hb
  | top => exact hb

theorem MonoR.keyOf {v : AV} {bad : RO} {k : TV → RO} (hb : MonoR P m0 bad) (hk : ∀ l, MonoR P m0 (k l)) : MonoR P m0 (keyOf v bad k) := by
  cases v with
  | c c => exact hk _
  | agg l => exact hk _
  | tup l => exact hb
  | top => exact hb

theorem MonoR.tvOf {v : AV} {bad : RO} {k : TV → RO} (hb : MonoR P m0 bad) (hk : ∀ l, MonoR P m0 (k l)) : MonoR P m0 (tvOf v bad k) := by
  cases v with
  | c c => exact hk _
  | agg l => exact hk _
  | tup l => exact hb
  | top => exact hb

theorem MonoR.spl {off : Nat} {vs cs : List CV} {bad : RO} {k : List CV → RO} (hb : MonoR P m0 bad) (hk : ∀ l, MonoR P m0 (k l)) : MonoR P m0 (spl bad off vs cs k) := by
  rw [spl_eq]; split
  · exact hk _
  · exact hb

theorem MonoR.sub {l : List CV} {off s : Nat} {bad : RO} {k : List CV → RO} (hb : MonoR P m0 bad) (hk : ∀ l, MonoR P m0 (k l)) : MonoR P m0 (sub bad l off s k) := by
  rw [sub_eq]; split
  · exact hk _
  · exact hb

theorem MonoR.rowOf {elem sz : Nat} {cells : List CV} {bad : RO} {k : Ob → RO} (hb : MonoR P m0 bad) (hk : ∀ ob, MonoR P m0 (k ob)) : MonoR P m0 (rowOf elem sz cells bad k) := by
  rcases rowOf_ok elem sz cells bad k with h | ⟨sz', d, t, h, _⟩
  · rw [h]; exact hb
  · rw [h]; exact hk _

theorem MonoR.takeCells {sz d s off : Nat} {t : NT d TV} {bad : RO} {k : List CV → RO} (hb : MonoR P m0 bad) (hk : ∀ l, MonoR P m0 (k l)) : MonoR P m0 (takeCells sz d t s off bad k) := by
  rcases takeCells_or sz d t s off bad k with h | ⟨l, h⟩
  · rw [h]; exact hb
  · rw [h]; exact hk _

theorem MonoR.layCells {sz d s off : Nat} {l : List CV} {t : NT d TV} {bad : RO} {k : NT d TV → RO} (hs : l.length = s) (hb : MonoR P m0 bad) (hk : ∀ l, MonoR P m0 (k l)) : MonoR P m0 (layCells sz d l s t off bad k) := by
  rcases layCells_ok sz d t l s off bad k hs with h | ⟨l, h, _⟩
  · rw [h]; exact hb
  · rw [h]; exact hk _

theorem MonoR.pieces {s : Nat} {l : List CV} {bad : RO} {k : List TV → RO} (hb : MonoR P m0 bad) (hk : ∀ l, MonoR P m0 (k l)) : MonoR P m0 (pieces s l bad k) := by
  rcases pieces_ok s l bad k with h | ⟨l, h, _⟩
  · rw [h]; exact hb
  · rw [h]; exact hk _

theorem MonoR.bld {d : Nat} {l : List TV} {k : NT d TV → List TV → RO} (hk : ∀ t l, MonoR P m0 (k t l)) : MonoR P m0 (bld topT d l k) := by
  obtain ⟨t, h, _⟩ := bld_ok topT d l k
  rw [h]; exact hk _ _

theorem MonoR.back {v : Value} (h : Mono P m0 m) : MonoR P m0 (backV v m) := fun a m' e => by
  obtain ⟨rfl, _⟩ := backV_ok e; exact h

theorem MonoR.backN {v : Option Next} (h : Mono P m0 m) : MonoR P m0 (backN v m) := fun a m' e => by
  obtain ⟨_, _, rfl, _⟩ := backN_ok e; exact h

/-- An operation that numbers so. -/
def OpMono (P : Program) {D : Nat} (f : OpF D) : Prop := ∀ (c : Ctx) (e : NT D AV) (m0 m : M), Mono P m0 m → MonoR P m0 (f.f c e m)

theorem OpMono.no {D k : Nat} : OpMono P (noOp (D := D) k) := fun _ _ _ _ _ => .fail _

/-- An operation that turns nothing. -/
theorem OpMono.same {D : Nat} {f : OpF D} (h : ∀ (c : Ctx) (e : NT D AV) (m : M) (v : AV) (m' : M), f.f c e m = .ok v m' → m' = m) : OpMono P f := fun c e m0 m hm v m' e' => by rw [h c e m v m' e']; exact hm

theorem genOp_mono (o : Oper) {D : Nat} : OpMono P (genOp P o (D := D)) := fun _c _e _m0 _m hm => MonoR.iff (MonoR.backN hm) (.fail _)

theorem okPtr_mono {id : Nat} (h : Mono P m0 m) : MonoR P m0 (okPtr id m) := .ok h
theorem okSlc_mono {a b id : Nat} (h : Mono P m0 m) : MonoR P m0 (okSlc a b id m) := .ok h
theorem okN_mono {n : Nat} (h : Mono P m0 m) : MonoR P m0 (okN n m) := .num fun _ => .ok h
theorem okU_mono (h : Mono P m0 m) : MonoR P m0 (okU m) := .ok h
theorem okTV_mono {v : TV} (h : Mono P m0 m) : MonoR P m0 (okTV m v) := by cases v <;> exact .ok h
theorem ofCells_mono {b : Bool} {l : List CV} (h : Mono P m0 m) : MonoR P m0 (ofCells b l m) := fun v m' e => by
  obtain ⟨rfl, _⟩ := ofCells_ok e; exact h

theorem allocD_mono {t : TypeId} {D : Nat} : OpMono P (allocD P t (D := D)) := by
  unfold allocD; split
  · exact fun c e m0 m hm => .fresh hm (.fail _) fun _ _ h => okPtr_mono h
  · exact .no

theorem boxD_mono {t : TypeId} {x : Operand} {D : Nat} : OpMono P (boxD P t x (D := D)) := fun c e m0 m hm => by
  show MonoR P m0 (boxA t ((evO P x).f e) m)
  unfold boxA; split
  · exact .fresh hm (.fail _) fun _ _ h => okPtr_mono h
  · exact .num fun _ => .rowOf (.fail _) fun _ => .fresh hm (.fail _) fun _ _ h => okPtr_mono h
  · exact .fail _

theorem loadD_mono {t : TypeId} {x : Operand} {D : Nat} : OpMono P (loadD P t x (D := D)) := by
  unfold loadD; split
  · rw [iff_eq]; split
    · intro c e m0 m hm v m' h
      rename_i agg s _ _ _
      have h : loadA P agg s ((evO P x).f e) m = .ok v m' := h
      obtain ⟨id, off, _, h⟩ := loadA_ok h
      obtain ⟨rm, hrm, _, h⟩ := look_ok h
      obtain ⟨el, n, sz, opn, fz, d, tr, _, _, h⟩ := loadRow_ok h
      have hm' : m' = ⟨m.H, m.nx, rm, m.wm, m.dfs⟩ := by
        cases agg with
        | true => exact loadAgg_m h
        | false => exact loadOne_m h
      rw [hm']
      exact hm.trans (Mono.marks' m _ hrm)
    · exact .no
  · exact .no

theorem storeRow_mono {id off s : Nat} {l : List CV} {ob : Ob} (hm : Mono P m0 m) : MonoR P m0 (storeRow P id off s l ob m) := fun v m' h => by
  obtain ⟨el, n, sz, opn, fz, d, tr, tr', _, _, _, _, hg, hid, _, rfl, _⟩ := storeRow_ok h
  exact hm.trans (Mono.upd m hg hid _ _ (Nat.min_le_left _ _) (Nat.min_le_left _ _) (Nat.min_le_right _ _) (fun h => by omega))

theorem storeD_mono {t : TypeId} {x y : Operand} {D : Nat} : OpMono P (storeD P t x y (D := D)) := by
  unfold storeD; split
  · intro c e m0 m hm
    rename_i s _
    show MonoR P m0 (storeA P s ((evO P x).f e) ((evO P y).f e) m)
    unfold storeA; split
    · refine .cellsA (.fail _) fun l => ?_
      unfold storeR; split
      · exact .look hm fun _ _ h => storeRow_mono h
      · exact .fail _
    · exact .fail _
  · exact .no

theorem layParts_mono {D : Nat} {e : NT D AV} {w : List Nat} {k : List CV → RO} (hk : ∀ l, MonoR P m0 (k l)) : ∀ (ps : List Part) (cs : List CV), MonoR P m0 ((layParts P (.fail w) ps).f e cs k)
  | [], cs => hk cs
  | p :: ps, cs => by
    show MonoR P m0 (cellsA ((evO P p.x).f e) (.fail w) fun vs => iff (Nat.beq vs.length p.sz) (spl (.fail w) p.off vs cs fun cs => (layParts P (.fail w) ps).f e cs k) (.fail w))
    exact .cellsA (.fail _) fun vs => .iff (.spl (.fail _) fun l => layParts_mono hk ps l) (.fail _)

theorem buildD_mono {t : TypeId} {ps : Array (Nat × Operand)} {D : Nat} : OpMono P (buildD P t ps (D := D)) := by
  unfold buildD; split
  · unfold buildS; split
    · exact fun c e m0 m hm => layParts_mono (fun l => .ok hm) _ _
    · exact .no
  · unfold buildR; split
    · exact fun c e m0 m hm => layParts_mono (fun l => .ok hm) _ _
    · exact .no
  · exact .no

theorem buildSliceD_mono {t : TypeId} {n : Nat} {ps : Array (Nat × Operand)} {D : Nat} : OpMono P (buildSliceD P t n ps (D := D)) := by
  unfold buildSliceD; split
  · split
    · unfold buildSliceL; rw [iff_eq]; split
      · exact fun c e m0 m hm => layParts_mono (fun l => .rowOf (.fail _) fun _ => .fresh hm (.fail _) fun _ _ h => okSlc_mono h) _ _
      · exact .no
    · exact .no
  · exact .no

theorem fieldD_mono {t : TypeId} {x : Operand} {f : Nat} {D : Nat} : OpMono P (fieldD P t x f (D := D)) := by
  unfold fieldD; split
  · split
    · unfold fieldF; split
      · rw [iff_eq]; split
        · intro c e m0 m hm
          show MonoR P m0 (fieldA _ _ _ _ m)
          unfold fieldA; split
          · exact .sub (.fail _) fun _ => ofCells_mono hm
          · exact .fail _
        · exact .no
      · exact .no
    · exact .no
  · exact .no

theorem fieldAddrD_mono {t : TypeId} {x : Operand} {f : Nat} {D : Nat} : OpMono P (fieldAddrD P t x f (D := D)) := by
  unfold fieldAddrD; split
  · split
    · unfold fieldAddrF; split
      · intro c e m0 m hm
        show MonoR P m0 (fieldAt _ _ m)
        unfold fieldAt; split
        · exact .num fun _ => .ok hm
        · exact .fail _
      · exact .no
    · exact .no
  · exact .no

theorem addrN_mono {id off len es i : Nat} (hm : Mono P m0 m) : MonoR P m0 (addrN id off len es m i) := .iff (.num fun _ => .ok hm) (.fail _)

theorem indexAddrD_mono {t : TypeId} {x i : Operand} {D : Nat} : OpMono P (indexAddrD P t x i (D := D)) := by
  unfold indexAddrD; split
  · split
    · intro c e m0 m hm
      rename_i es _
      show MonoR P m0 (idxSlc es ((evO P x).f e) ((evO P i).f e) m)
      unfold idxSlc; split
      · exact .natOf (.fail _) fun _ => addrN_mono hm
      · exact .natOf (.fail _) fun _ => addrN_mono hm
      · exact .fail _
    · exact .no
  · split
    · intro c e m0 m hm
      rename_i len elem _ _ es _
      show MonoR P m0 (idxArr len es ((evO P x).f e) ((evO P i).f e) m)
      unfold idxArr; split
      · exact .natOf (.fail _) fun _ => addrN_mono hm
      · exact .fail _
    · exact .no
  · exact .no

theorem nth_mono {l : List Nat} {i : Nat} {bad : RO} {k : Nat → RO} (hb : MonoR P m0 bad) (hk : ∀ n, MonoR P m0 (k n)) : MonoR P m0 (nth bad l i k) := by
  rw [nth_eq]; split
  · exact hk _
  · exact hb

theorem indexD_mono {t : TypeId} {x i : Operand} {D : Nat} : OpMono P (indexD P t x i (D := D)) := by
  unfold indexD; split
  · intro c e m0 m hm
    show MonoR P m0 (idxStr ((evO P x).f e) ((evO P i).f e) m)
    unfold idxStr; split
    · exact .natOf (.fail _) fun _ => nth_mono (.fail _) fun _ => .ok hm
    · exact .fail _
  · split
    · rw [iff_eq]; split
      · intro c e m0 m hm
        show MonoR P m0 (idxAgg _ _ _ _ _ m)
        unfold idxAgg; split
        · exact .natOf (.fail _) fun _ => .iff (.sub (.fail _) fun _ => ofCells_mono hm) (.fail _)
        · exact .fail _
      · exact .no
    · exact .no
  · exact .no

theorem extractD_mono {x : Operand} {i : Nat} {D : Nat} : OpMono P (extractD P x i (D := D)) := fun c e m0 m hm => by
  show MonoR P m0 (extractA i ((evO P x).f e) m)
  unfold extractA; split
  · rw [nthT_eq]; split
    · exact .ok hm
    · exact .fail _
  · exact .fail _

theorem moveD_mono {x : Operand} {D : Nat} : OpMono P (moveD P x (D := D)) := fun c e m0 m hm => by
  show MonoR P m0 (forceA _ m)
  rw [forceA_eq]; exact .ok hm

theorem pickD_mono {b x y : Operand} {D : Nat} : OpMono P (pickD P b x y (D := D)) := fun c e m0 m hm => by
  show MonoR P m0 (pickA _ _ _ m)
  unfold pickA; split
  · rw [forceA_eq, forceA_eq]; exact .iff (.ok hm) (.ok hm)
  · exact .fail _

theorem nilCheckD_mono {x : Operand} {D : Nat} : OpMono P (nilCheckD P x (D := D)) := fun c e m0 m hm => by
  show MonoR P m0 (nilCheckA _ m)
  unfold nilCheckA; split <;> first | exact .ok hm | exact .fail _

theorem unD_mono {o : Oper} {op : UnOp} {x : Operand} {D : Nat} : OpMono P (unD P o op x (D := D)) := by
  unfold unD; split
  · intro c e m0 m hm
    show MonoR P m0 (notA _ m)
    unfold notA; split
    · exact .iff (.ok hm) (.ok hm)
    · exact .fail _
  · exact genOp_mono o

theorem okB_mono {b : Bool} (hm : Mono P m0 m) : MonoR P m0 (okB b m) := by rw [okB_eq]; exact .ok hm

theorem genInt_mono {op : BinOp} {k : IntKind} {x y : Int} (hm : Mono P m0 m) : MonoR P m0 (genInt P op k x y m) := MonoR.backN hm

theorem wrapI_mono {k : IntKind} {n : Int} (hm : Mono P m0 m) : MonoR P m0 (wrapI k n m) := by rw [wrapI_eq]; exact .ok hm
theorem wrapNat_mono {k : IntKind} {n : Nat} (hm : Mono P m0 m) : MonoR P m0 (wrapNat k n m) := by rw [wrapNat_eq]; exact .ok hm

theorem nat2_mono {x y : Int} {k : Nat → Nat → RO} {no : RO} (hk : ∀ a b, MonoR P m0 (k a b)) (hn : MonoR P m0 no) : MonoR P m0 (nat2 x y k no) := by
  rcases nat2_ok (x := x) (y := y) (k := k) (no := no) rfl with ⟨a, b, _, _, h⟩ | h
  · rw [← h]; exact hk a b
  · rw [← h]; exact hn

theorem intF_mono {op : BinOp} {k : IntKind} {x y : Int} (hm : Mono P m0 m) : MonoR P m0 ((intF P op).f k x y m) := by
  cases op with
  | add => exact wrapI_mono hm
  | sub => exact wrapI_mono hm
  | mul => exact wrapI_mono hm
  | eql => exact okB_mono hm
  | neq => exact okB_mono hm
  | lss => exact okB_mono hm
  | leq => exact okB_mono hm
  | gtr => exact okB_mono hm
  | geq => exact okB_mono hm
  | and => exact nat2_mono (fun a b => .iff (.num fun _ => wrapNat_mono hm) (genInt_mono hm)) (genInt_mono hm)
  | or => exact nat2_mono (fun a b => .iff (.num fun _ => wrapNat_mono hm) (genInt_mono hm)) (genInt_mono hm)
  | xor => exact nat2_mono (fun a b => .iff (.num fun _ => wrapNat_mono hm) (genInt_mono hm)) (genInt_mono hm)
  | andNot => exact nat2_mono (fun a b => .iff (.num fun _ => wrapNat_mono hm) (genInt_mono hm)) (genInt_mono hm)
  | quo => exact nat2_mono (fun a b => .iff (.num fun _ => wrapNat_mono hm) (.fail _)) (genInt_mono hm)
  | rem => exact nat2_mono (fun a b => .iff (.num fun _ => .ok hm) (.fail _)) (genInt_mono hm)
  | _ => exact genInt_mono hm

theorem strF_mono {op : BinOp} {s t : List Nat} (hm : Mono P m0 m) : MonoR P m0 ((strF op).f s t m) := by
  cases op with
  | add =>
    refine .iff ?_ (.fail _)
    rw [strApp_eq]; exact .ok hm
  | eql => exact okB_mono hm
  | neq => exact okB_mono hm
  | lss => exact okB_mono hm
  | leq => exact okB_mono hm
  | gtr => exact okB_mono hm
  | geq => exact okB_mono hm
  | _ => exact .fail _

theorem refEq_mono {psz : Bool} {t : Option TypeDesc} {a b : RV} {n : Bool} (hm : Mono P m0 m) : MonoR P m0 (refEq psz t a b n m) := by
  unfold refEq; split <;> first | exact okB_mono hm | exact .fail _ | exact .iff (okB_mono hm) (.fail _)

theorem binC_mono {op : BinOp} {g : RO} {B : BinF} (hi : B.int = intF P op) (hs : B.str = strF op) {v w : CV} (hm : Mono P m0 m) (hg : MonoR P m0 g) : MonoR P m0 (binC g B v w m) := by
  cases v with
  | int k a =>
    cases w with
    | int k' b =>
      refine MonoR.iff ?_ (.fail _)
      rw [hi]; exact intF_mono hm
    | _ => exact .fail _
  | bool a =>
    show MonoR P m0 (binBool B a w m)
    unfold binBool; split
    · split
      · split
        · exact okB_mono hm
        · exact .fail _
      · exact .fail _
    · exact .fail _
  | str a =>
    cases w with
    | str b =>
      show MonoR P m0 (B.str.f a b m)
      rw [hs]; exact strF_mono hm
    | _ => exact .fail _
  | ref a =>
    show MonoR P m0 (binRef g B a w m)
    unfold binRef; split
    · refine .iff hg ?_
      split
      · exact refEq_mono hm
      · exact .fail _
    · exact .fail _

theorem bin0_mono {g : RO} {op : BinOp} {t : TypeId} {v w : AV} (hm : Mono P m0 m) (hg : MonoR P m0 g) : MonoR P m0 (bin0 g (binB P op t) v w m) := by
  cases v with
  | c v =>
    cases w with
    | c w => exact binC_mono (P := P) (op := op) rfl rfl hm hg
    | _ => exact .fail _
  | agg a =>
    show MonoR P m0 (binA g (binB P op t) a w m)
    unfold binA; split
    · unfold binAgg; split
      · split
        · unfold aggEq; split
          · exact okB_mono hm
          · exact .fail _
        · exact hg
      · exact hg
    · exact .fail _
  | _ => exact .fail _

theorem sh0_mono {b : Bool} {v w : AV} (hm : Mono P m0 m) : MonoR P m0 (sh0 b v w m) := by
  unfold sh0; split
  · unfold shK; split
    · refine nat2_mono (fun a b' => ?_) (.fail _)
      cases b
      · exact .num fun _ => .ok hm
      · exact .num fun _ => wrapNat_mono hm
    · exact .fail _
  · exact .fail _

theorem binD_mono {o : Oper} {op : BinOp} {t : TypeId} {x y : Operand} {D : Nat} : OpMono P (binD P o op t x y (D := D)) := by
  unfold binD; split
  · exact fun c e m0 m hm => sh0_mono hm
  · exact fun c e m0 m hm => sh0_mono hm
  · exact fun c e m0 m hm => bin0_mono hm (genOp_mono o c e m0 m hm)

theorem rowCells_mono {off s : Nat} {bad : List Nat} {k : List CV → M → RO} {ob : Ob} (hk : ∀ l, MonoR P m0 (k l m)) : MonoR P m0 (rowCells (.fail bad) off s k ob m) := by
  unfold rowCells; split
  · exact .iff (.takeCells (.fail _) fun l => hk l) (.fail _)
  · exact .fail _

theorem okStr_mono {l : List CV} (hm : Mono P m0 m) : MonoR P m0 (okStr l m) := by
  unfold okStr
  rcases cellBytes_ok (RO.fail [82]) l (fun s => .ok (.c (.str s)) m) with h | ⟨s, h, _⟩
  · rw [h]; exact .fail _
  · rw [h]; exact .ok hm

theorem convertD_mono {o : Oper} {s t : TypeId} {x : Operand} {D : Nat} : OpMono P (convertD P o s t x (D := D)) := by
  unfold convertD; split
  · intro c e m0 m hm
    show MonoR P m0 (convInt _ _ m)
    unfold convInt; split
    · exact wrapI_mono hm
    · exact .fail _
  · intro c e m0 m hm
    show MonoR P m0 (convStr _ m)
    unfold convStr; split
    · exact .ok hm
    · exact .fail _
  · split
    · intro c e m0 m hm
      show MonoR P m0 (convBytes _ _ m)
      unfold convBytes; split
      · rw [byteCells_eq, bare_eq]
        exact .num fun _ => .iff (.num fun _ => .bld fun _ _ => .fresh hm (.fail _) fun _ _ h => okSlc_mono h) (.fail _)
      · exact .fail _
    · exact .no
  · split
    · intro c e m0 m hm
      show MonoR P m0 (convText P _ m)
      unfold convText; split
      · exact .ok hm
      · exact .ok hm
      · exact .look hm fun _ _ h => rowCells_mono fun _ => okStr_mono h
      · exact .fail _
    · exact .no
  · split
    · rw [iff_eq]; split
      · intro c e m0 m hm
        show MonoR P m0 (toSame P _ m)
        unfold toSame; split
        · exact .look hm fun _ _ h => by
            unfold sameOb; split
            · exact .iff (.turn h (.fail _) fun _ h => .ok h) (.fail _)
            · exact .fail _
        · exact .fail _
      · exact .no
    · exact .no
  · split
    · intro c e m0 m hm
      show MonoR P m0 (toUns P _ m)
      unfold toUns; split
      · exact .ok hm
      · exact .look hm fun _ _ h => by
          unfold unsOb; split
          · exact .iff (.ok h) (.fail _)
          · exact .fail _
      · exact .fail _
    · exact .no
  · split
    · intro c e m0 m hm
      show MonoR P m0 (fromUns P _ _ m)
      unfold fromUns; split
      · exact .ok hm
      · exact .look hm fun _ _ h => by
          unfold backOb; split
          · exact .iff (.ok h) (.fail _)
          · exact .fail _
      · exact .fail _
    · exact .no
  · exact genOp_mono o

theorem ptrs_mono {D : Nat} {e : NT D AV} {k : List (Nat × Nat) → RO} (hk : ∀ l, MonoR P m0 (k l)) : ∀ (l : List Operand) , MonoR P m0 ((ptrs P l).f e k) := by
  intro l
  induction l generalizing k with
  | nil => exact hk _
  | cons x r ih =>
    show MonoR P m0 (match (evO P x).f e with
      | .c (.ref (.ptr id off)) => (ptrs P r).f e fun l => k ((id, off) :: l)
      | _ => .fail [85])
    split
    · exact ih fun l => hk _
    · exact .fail _

theorem makeFuncD_mono {fn : Fn} {a b : Array Operand} {D : Nat} : OpMono P (makeFuncD P fn a b (D := D)) := by
  unfold makeFuncD; split
  · exact fun c e m0 m hm => ptrs_mono (fun _ => ptrs_mono (fun _ => .ok hm) _) _
  · exact .no

theorem makeMapD_mono {t : TypeId} {r : Option Operand} {D : Nat} : OpMono P (makeMapD P t r (D := D)) := by
  unfold makeMapD; split
  · exact fun c e m0 m hm => .fresh hm (.fail _) fun _ _ h => .ok h
  · split
    · intro c e m0 m hm
      show MonoR P m0 (hintA _ m)
      unfold hintA; split
      · exact .fresh hm (.fail _) fun _ _ h => .ok h
      · exact .fail _
    · exact .no

theorem makeSliceD_mono {t : TypeId} {l c : Operand} {D : Nat} : OpMono P (makeSliceD P t l c (D := D)) := by
  unfold makeSliceD; split
  · split
    · unfold makeSliceL; rw [iff_eq]; split
      · exact fun c e m0 m hm => .natOf (.fail _) fun _ => .natOf (.fail _) fun _ => .iff (.rowOf (.fail _) fun _ => .fresh hm (.fail _) fun _ _ h => okSlc_mono h) (.fail _)
      · exact .no
    · exact .no
  · exact .no

theorem findG_mono {ks : Option (List Nat)} {key : TV} {w : List Nat} {no : RO} {yes : Nat → TV → RO} (hn : MonoR P m0 no) (hy : ∀ i v, MonoR P m0 (yes i v)) : ∀ (es : List MapE) (i : Nat), MonoR P m0 (findG (.fail w) ks key no yes es i)
  | [], _ => hn
  | x :: es, i => by
    show MonoR P m0 (stepM (.fail w) (sameK ks key x.key) (yes i x.val) (findG (.fail w) ks key no yes es (i + 1)))
    unfold stepM; split
    · exact .fail _
    · exact .iff (hy _ _) (findG_mono hn hy es _)

theorem findM_eq {β : Type} (bad : β) (ks : Option (List Nat)) (key : TV) (es : List MapE) (no : β) (yes : Nat → TV → β) : findM bad ks key es no yes = findG bad ks key no yes es 0 := rfl

theorem okFound_mono {a b : Bool} {v : TV} (hm : Mono P m0 m) : MonoR P m0 (okFound a b m v) := by
  unfold okFound; split
  · exact .ok hm
  · exact okTV_mono hm

theorem lookupM_mono {ks : Option (List Nat)} {z : TV} {ok : Bool} {key : TV} {es : List MapE} (hm : Mono P m0 m) : MonoR P m0 (lookupM ks z ok key es m) := by
  unfold lookupM
  rw [findM_eq]
  exact findG_mono (okFound_mono hm) (fun _ _ => okFound_mono hm) es 0

theorem lookupD_mono {t : TypeId} {x i : Operand} {ok : Bool} {D : Nat} : OpMono P (lookupD P t x i ok (D := D)) := by
  unfold lookupD; split
  · split
    · intro c e m0 m hm
      dsimp only
      refine MonoR.keyOf (.fail _) fun key => ?_
      refine .iff ?_ (.fail _)
      unfold lookupR; split
      · exact lookupM_mono hm
      · refine .look hm fun ob m1 h => ?_
        unfold lookupOb; split
        · exact lookupM_mono h
        · exact .fail _
      · exact .fail _
    · exact .no
  · exact .no

theorem mapUpdateD_mono {t : TypeId} {x i y : Operand} {D : Nat} : OpMono P (mapUpdateD P t x i y (D := D)) := by
  unfold mapUpdateD; split
  · intro c e m0 m hm
    dsimp only
    refine MonoR.keyOf (.fail _) fun key => ?_
    refine .iff ?_ (.fail _)
    unfold updR; split
    · refine .tvOf (.fail _) fun val => .look hm fun ob m1 h => ?_
      unfold updOb; split
      · rw [findM_eq]
        refine findG_mono ?_ ?_ _ 0
        · rw [pushM_eq]; exact .num fun _ => .turn h (.fail _) fun _ h => okU_mono h
        · intro i v; rw [setM_eq]; exact .turn h (.fail _) fun _ h => okU_mono h
      · exact .fail _
    · exact .fail _
  · exact .no

theorem bound_mono {x : Option Operand} {n : Nat} {D : Nat} {e : NT D AV} {k : Nat → RO} (hk : ∀ n, MonoR P m0 (k n)) : MonoR P m0 (bound P x n e k) := by
  unfold bound; split
  · exact hk _
  · exact .natOf (.fail _) hk

theorem okShut_mono {a b c d : Nat} {ob : Ob} (hm : Mono P m0 m) : MonoR P m0 (okShut a b c d ob m) := fun v m' e => by
  obtain ⟨rfl, _⟩ := okShut_ok e; exact hm

theorem sliceD_mono {t : TypeId} {x : Operand} {lo hi mx : Option Operand} {D : Nat} : OpMono P (sliceD P t x lo hi mx (D := D)) := by
  unfold sliceD; rw [iff_eq]; split
  · exact .no
  · split
    · split
      · intro c e m0 m hm
        show MonoR P m0 (slStr P lo hi e _ m)
        unfold slStr; split
        · refine .num fun _ => bound_mono fun _ => bound_mono fun _ => .iff ?_ (.fail _)
          unfold cut; rw [forceStr_eq]; exact .ok hm
        · exact .fail _
      · exact .no
    · split
      · intro c e m0 m hm
        show MonoR P m0 (slSlc P _ lo hi mx e _ m)
        unfold slSlc; split
        · refine .iff (bound_mono fun _ => bound_mono fun _ => .iff (.num fun _ => .num fun _ => .num fun _ => .ok hm) (.iff (.ok hm) (.fail _))) (bound_mono fun _ => bound_mono fun _ => bound_mono fun _ => .iff (.num fun _ => .num fun _ => .num fun _ => ?_) ?_)
          · split
            · exact .ok hm
            · exact .look hm fun _ _ h => okShut_mono h
          · refine .iff ?_ (.fail _)
            split <;> exact .ok hm
        · exact bound_mono fun _ => bound_mono fun _ => bound_mono fun _ => .iff (.ok hm) (.fail _)
        · split
          · exact bound_mono fun _ => bound_mono fun _ => .iff (.ok hm) (.fail _)
          · exact .fail _
        · refine bound_mono fun _ => bound_mono fun _ => bound_mono fun _ => ?_
          unfold slxCut
          exact .iff (.num fun _ => .num fun _ => .num fun _ => .ok hm) (.iff (.ok hm) (.fail _))
        · exact bound_mono fun _ => bound_mono fun _ => bound_mono fun _ => .iff (.ok hm) (.fail _)
        · exact .fail _
      · exact .no
    · split
      · intro c e m0 m hm
        show MonoR P m0 (slArr P _ _ lo hi mx e _ m)
        unfold slArr; split
        · exact bound_mono fun _ => bound_mono fun _ => bound_mono fun _ => .iff (.num fun _ => .num fun _ => .num fun _ => .look hm fun _ _ h => okShut_mono h) (.fail _)
        · exact .fail _
      · exact .no
    · exact .no

theorem lenD_mono {t : TypeId} {x : Operand} {D : Nat} : OpMono P (lenD P t x (D := D)) := by
  unfold lenD; split
  · intro c e m0 m hm
    show MonoR P m0 (lenStr _ m)
    unfold lenStr; split
    · exact okN_mono hm
    · exact .fail _
  · exact fun c e m0 m hm => okN_mono hm
  · intro c e m0 m hm
    show MonoR P m0 (lenSlc _ m)
    unfold lenSlc; split
    · exact okN_mono hm
    · exact okN_mono hm
    · exact okN_mono hm
    · exact okN_mono hm
    · exact okN_mono hm
    · exact .fail _
  · intro c e m0 m hm
    show MonoR P m0 (lenMap P _ m)
    unfold lenMap; split
    · exact okN_mono hm
    · refine .look hm fun ob m1 h => ?_
      unfold lenOb; split
      · exact okN_mono h
      · exact .fail _
    · exact .fail _
  · exact .no

theorem srcCells_mono {w : List Nat} {s : Nat} {v : AV} {k : Nat → List CV → M → RO} (hm : Mono P m0 m) (hk : ∀ n l m1, Mono P m0 m1 → MonoR P m0 (k n l m1)) : MonoR P m0 (srcCells P (.fail w) s v m k) := by
  unfold srcCells; split
  · exact hk _ _ _ hm
  · exact hk _ _ _ hm
  · exact .num fun _ => .look hm fun _ _ h => rowCells_mono fun _ => hk _ _ _ h
  · exact .num fun _ => .look hm fun _ _ h => rowCells_mono fun _ => hk _ _ _ h
  · exact hk _ _ _ hm
  · refine .iff ?_ (.fail _)
    rw [byteCells_eq]; exact .num fun _ => hk _ _ _ hm
  · exact .fail _

theorem killK_mono {opn : Bool} {id fz lim : Nat} {k : M → RO} (hm : Mono P m0 m) (hk : ∀ m1, Mono P m0 m1 → MonoR P m0 (k m1)) : MonoR P m0 (killK P opn id fz lim m k) := by
  unfold killK; split
  · exact .iff (.turn hm (.fail _) hk) (.fail _)
  · exact hk _ hm

theorem appendNew_mono {elem id off cap sz need len : Nat} {l : List CV} {ob : Ob} (h : Mono P m0 m) : MonoR P m0 (appendNew P elem id off cap sz need len l ob m) := by
  unfold appendNew; split
  · refine .iff (.num fun _ => .num fun _ => killK_mono h fun m2 h => .iff ?_ ?_) (.fail _)
    · unfold appendOn
      obtain ⟨d', t', h1, _⟩ := growT_ok _ _ _ _
      rw [h1]
      refine .iff (.pieces (.fail _) fun ps => ?_) (.fail _)
      rw [layPs_eq]
      exact .num fun _ => .fresh h (.fail _) fun _ _ h => okSlc_mono h
    · unfold appendCopy
      refine .takeCells (.fail _) fun old => ?_
      rw [appC_eq]
      exact .pieces (.fail _) fun ps => .num fun _ => .bld fun _ _ => .num fun _ => .fresh h (.fail _) fun _ _ h => okSlc_mono h
  · exact .fail _

theorem appendTo_mono {elem s n : Nat} {v : AV} {l : List CV} (hm : Mono P m0 m) : MonoR P m0 (appendTo P elem s v n l m) := by
  unfold appendTo; split
  · refine .iff (.ok hm) ?_
    unfold appendNil
    exact .iff (.num fun _ => .num fun _ => .pieces (.fail _) fun _ => .bld fun _ _ => .fresh hm (.fail _) fun _ _ h => okSlc_mono h) (.fail _)
  · refine .iff (.iff (.ok hm) (.fail _)) (.num fun _ => .iff (.look hm fun ob m1 h => ?_) (.fail _))
    unfold appendRow
    refine .iff ?_ ?_
    · unfold appendIn; split
      · exact .iff (.num fun _ => .layCells rfl (.fail _) fun _ => .turn h (.fail _) fun _ h => .ok h) (.fail _)
      · exact .fail _
    · exact appendNew_mono h
  · refine .iff (.iff (.ok hm) (.fail _)) (.num fun _ => .iff (.look hm fun ob m1 h => ?_) (.fail _))
    unfold appendShut; split
    · exact .iff (.fail _) (appendNew_mono h)
    · exact .fail _
  · refine .iff (.ok hm) ?_
    unfold appendNil
    exact .iff (.num fun _ => .num fun _ => .pieces (.fail _) fun _ => .bld fun _ _ => .fresh hm (.fail _) fun _ _ h => okSlc_mono h) (.fail _)
  · exact .fail _

theorem appendD_mono {ts : Array TypeId} {x y : Operand} {D : Nat} : OpMono P (appendD P ts x y (D := D)) := by
  have main : ∀ e, OpMono P (appendE P e x y (D := D)) := fun e => by
    unfold appendE; split
    · unfold appendL; rw [iff_eq]; split
      · exact fun c e m0 m hm => srcCells_mono hm fun _ _ _ h => appendTo_mono h
      · exact .no
    · exact .no
  unfold appendD; split
  · split
    · exact main _
    · exact main _
    · exact .no
  · exact .no

theorem copyD_mono {ts : Array TypeId} {x y : Operand} {D : Nat} : OpMono P (copyD P ts x y (D := D)) := by
  unfold copyD; split
  · split
    · unfold copyL; split
      · refine fun c e m0 m hm => srcCells_mono hm fun n l m1 h => ?_
        unfold copyTo; split
        · exact okN_mono h
        · unfold minK
          refine .iff ?_ ?_ <;>
          · refine .num fun _ => ?_
            rw [takeL_eq]
            refine .look h fun ob m2 h => fun v m' hd => ?_
            unfold copyDone at hd
            split at hd
            · rename_i v1 m3 hs
              exact okN_mono (storeRow_mono h v1 m3 hs) v m' hd
            · cases hd
        · exact .fail _
      · exact .no
    · exact .no
  · exact .no

theorem builtinD_mono {o : Oper} {b : Builtin} {args : Array Operand} {ts : Array TypeId} {D : Nat} : OpMono P (builtinD P o b args ts (D := D)) := by
  unfold builtinD; split
  · split
    · unfold capD; split
      · intro c e m0 m hm
        show MonoR P m0 (capA _ m)
        unfold capA; split
        · exact okN_mono hm
        · exact .ok hm
        · exact okN_mono hm
        · exact .fail _
      · exact genOp_mono o
    · exact .no
  · intro c e m0 m hm
    show MonoR P m0 (dataPtr _ m)
    unfold dataPtr; split
    · exact .ok hm
    · exact .iff (.ok hm) (.fail _)
    · exact .fail _
  · unfold dataTextD; split
    · split
      · rw [iff_eq]; split
        · intro c e m0 m hm
          show MonoR P m0 (dataText P _ _ _ m)
          unfold dataText; split
          · split
            · exact .ok hm
            · exact .ok hm
            · exact .fail _
          · split
            · refine .iff (.look hm fun ob m1 h1 => ?_) (.fail _)
              unfold dataStr; split
              · refine .iff (.takeCells (.fail _) fun l => ?_) (.fail _)
                rcases cellBytes_ok (RO.fail [252]) l (fun s => forceStr s fun s => num _ fun fz => turn P _ (.row _ _ _ _ fz _ _) m1 (.fail [252]) fun m => .ok (.c (.str s)) m) with h2 | ⟨s, h2, _⟩
                · rw [h2]; exact .fail _
                · rw [h2, forceStr_eq]
                  exact .num fun _ => .turn h1 (.fail _) fun _ h => .ok h
              · exact .fail _
            · exact .fail _
          · exact .fail _
        · exact .no
      · exact .no
    · exact .no
  · split
    · exact lenD_mono
    · exact .no
  · exact appendD_mono
  · exact copyD_mono
  all_goals first | exact .no | exact genOp_mono o

end Go.CE
end WO

/- Calls; regions in the text's order. No program is named. -/
noncomputable section WP
namespace Go.CE
open Go

variable {P : Program} {B0 : Nat} {A W W' : Nat → Prop} {ρ ρ' ρ'' : Rho} {m m' m'' : M} {w w' w'' : World}

/-- What a call has done. -/
structure Ran (P : Program) (B0 : Nat) (A : Nat → Prop) (ρ : Rho) (m : M) (w : World) (v : AV) (m' : M) (x : Value) (w' : World) (ρ' : Rho) : Prop where
  val : AR ρ' v x
  post : Post P B0 A (fun id => m'.wm ≤ id) ρ m w ρ' m' w'

def ranR (P : Program) (B0 : Nat) (A : Nat → Prop) (ρ : Rho) (m : M) (w : World) (v : AV) (m' : M) (e : Ending) (w' : World) : Prop :=
  ∃ x ρ', e = .returned x ∧ Ran P B0 A ρ m w v m' x w' ρ'

/-- What calls lead to is as worked out. -/
structure LowOK (P : Program) (c : Low) : Prop where
  callM : ∀ (f : Nat) (args : List AV) (m : M) (v : AV) (m' : M), c.call f args m = .ok v m' → Mono P m m'
  roundM : ∀ (id : Nat) (args : List AV) (m : M) (v : AV) (m' : M), c.round id args m = .ok v m' → Mono P m m'
  call : ∀ (f : Nat) (args : List AV) (m : M) (v : AV) (m' : M), c.call f args m = .ok v m' → m.dfs = [] →
    ∀ (B0 : Nat) (A : Nat → Prop) (ρ : Rho) (w : World) (vals : List Value), WF P m → In A m m' → Rel P B0 A ρ m.H w → Fresh ρ m m' → All2 (AR ρ) args vals →
      ∀ n, CallsIn Fence.wide n P f vals.toArray w (ranR P B0 A ρ m w v m')
  round : ∀ (id : Nat) (args : List AV) (m : M) (v : AV) (m' : M), c.round id args m = .ok v m' → m.dfs = [] →
    ∀ (B0 : Nat) (A : Nat → Prop) (ρ : Rho) (w : World) (vals : List Value) (s : Seg), WF P m → In A m m' → Rel P B0 A ρ m.H w → Fresh ρ m m' → All2 (AR ρ) args vals → ρ id = some s →
      ∃ f tmps as bd, (Instr.yield s.blk vals.toArray).run P w = .ok (.round s.blk f tmps as bd) w ∧ ∀ n, RoundIn Fence.wide n P s.blk f tmps as bd w (ranR P B0 A ρ m w v m')

/-- A fence that lets everything in. -/
def Wide (F : Fence) : Prop := F = Fence.wide ∨ ∃ l, F = Fence.wide.inRound l

theorem Wide.fn {F : Fence} (h : Wide F) (f : Nat) : F.fn f := by rcases h with rfl | ⟨l, rfl⟩ <;> trivial
theorem Wide.depth {F : Fence} (h : Wide F) : F.depth = none := by rcases h with rfl | ⟨l, rfl⟩ <;> rfl
theorem Wide.calls {F : Fence} (h : Wide F) {n f : Nat} {args : Array Value} {R : Ending → World → Prop} (hc : CallsIn Fence.wide n P f args w R) : CallsIn F n P f args w R := by
  rcases h with rfl | ⟨l, rfl⟩ <;> exact hc
theorem Wide.rounds {F : Fence} (h : Wide F) {n l f : Nat} {tmps : Array Value} {as bd : Code} {R : Ending → World → Prop} (hc : RoundIn Fence.wide n P l f tmps as bd w R) : RoundIn F n P l f tmps as bd w R := by
  rcases h with rfl | ⟨l, rfl⟩ <;> exact hc

/-- An operation, calls and all. -/
def OpWp (P : Program) (o : Oper) {D : Nat} (f : OpF D) : Prop :=
  ∀ (c : Ctx) (e : NT D AV) (m : M) (v : AV) (m' : M), f.f c e m = .ok v m' → LowOK P c.low →
    ∀ (B0 : Nat) (A : Nat → Prop) (N : Nat) (ρ : Rho) (a : Act) (w : World), WF P m → In A m m' → Rel P B0 A ρ m.H w → ENV ρ N D e a.tmps → Fresh ρ m m' →
      ∀ (F : Fence), Wide F → ∀ (n : Nat) (K : Act → World → Prop) (Q : Exit → Act → World → Prop), (∀ x w' ρ', Done P B0 A ρ m w v m' x w' ρ' → K (a.put o.dst x) w') → o.wpIn F n P a w K Q

theorem runs_wp {o : Oper} {a : Act} {x : Value} (h : Runs P o a w x w') (hd : ∀ c, o.op ≠ .defer c) {F : Fence} (hF : Wide F) (n : Nat) {K : Act → World → Prop} {Q : Exit → Act → World → Prop} (hk : K (a.put o.dst x) w') : o.wpIn F n P a w K Q := by
  refine ⟨fun f _ => hF.fn f, ?_⟩
  rw [Oper.semAt_eq _ _ _ hd]
  rcases h with h | ⟨rfl, h⟩
  · rw [h]; exact hk
  · rw [h]; exact hk

theorem OpOK.wp {o : Oper} {D : Nat} {f : OpF D} (h : OpOK P o f) (hd : ∀ c, o.op ≠ .defer c) : OpWp P o f := by
  intro c e m v m' hf _ B0 A N ρ a w hw hin hr he hfr F hF n K Q hk
  obtain ⟨x, w', ρ', hrun, hdone⟩ := h c e m v m' hf B0 A N ρ a w hw hin hr he hfr
  exact runs_wp hrun hd hF n (hk x w' ρ' hdone)

theorem OpWp.no {o : Oper} {D k : Nat} : OpWp P o (noOp (D := D) k) := fun _ _ _ _ _ h => by cases h

/-! ### Calls -/

theorem evArgs_ok {D : Nat} {e : NT D AV} {ev : Operand → Value} (hx : ∀ x, AR ρ ((evO P x).f e) (ev x)) : ∀ (l : List Operand) (k : List AV → RO) {v : AV}, (evArgs P l).f e k = .ok v m' → ∃ args, k args = .ok v m' ∧ All2 (AR ρ) args (l.map ev)
  | [], k, v, h => ⟨[], h, trivial⟩
  | x :: r, k, v, h => by
    have h : (match (evO P x).f e with
      | .c v => (evArgs P r).f e fun l => k (.c v :: l)
      | .agg v => (evArgs P r).f e fun l => k (.agg v :: l)
      | _ => .fail [170]) = RO.ok v m' := h
    split at h
    · rename_i c hc
      obtain ⟨args, h1, h2⟩ := evArgs_ok hx r _ h
      have := hx x
      rw [hc] at this
      exact ⟨_, h1, this, h2⟩
    · rename_i c hc
      obtain ⟨args, h1, h2⟩ := evArgs_ok hx r _ h
      have := hx x
      rw [hc] at this
      exact ⟨_, h1, this, h2⟩
    · cases h

theorem evArgs_mono {D : Nat} {m0 : M} {e : NT D AV} {k : List AV → RO} (hk : ∀ l, MonoR P m0 (k l)) : ∀ (l : List Operand), MonoR P m0 ((evArgs P l).f e k) := by
  intro l
  induction l generalizing k with
  | nil => exact hk _
  | cons x r ih =>
    show MonoR P m0 (match (evO P x).f e with
      | .c v => (evArgs P r).f e fun l => k (.c v :: l)
      | .agg v => (evArgs P r).f e fun l => k (.agg v :: l)
      | _ => .fail [170])
    split
    · exact ih fun l => hk _
    · exact ih fun l => hk _
    · exact .fail _

theorem ptrArgs_ok {l : List (Nat × Nat)} {vs : List Value} {k : List AV} {ks : List Value} (h : All2 (PR ρ) l vs) (hk : All2 (AR ρ) k ks) : All2 (AR ρ) (ptrArgs l k) (vs ++ ks) := by
  induction l generalizing vs with
  | nil => cases vs with
    | nil => exact hk
    | cons _ _ => exact h.elim
  | cons x r ih => cases vs with
    | nil => exact h.elim
    | cons v vs =>
      obtain ⟨id, off⟩ := x
      exact ⟨h.1, ih h.2⟩

theorem appA_ok {l k : List AV} {vs ks : List Value} (h : All2 (AR ρ) l vs) (hk : All2 (AR ρ) k ks) : All2 (AR ρ) (appA l k) (vs ++ ks) := by
  induction l generalizing vs with
  | nil => cases vs with
    | nil => exact hk
    | cons _ _ => exact h.elim
  | cons x r ih => cases vs with
    | nil => exact h.elim
    | cons v vs => exact ⟨h.1, ih h.2⟩

theorem lent_ok {dfs : List Nat} {r : RO} {v : AV} (h : lent dfs r = .ok v m') : ∃ m1, r = .ok v m1 ∧ m' = ⟨m1.H, m1.nx, m1.rm, m1.wm, dfs⟩ := by
  unfold lent at h
  split at h
  · rename_i v1 m1
    obtain ⟨H, nx, rm, wm, d⟩ := m1
    have h : RO.ok v1 ⟨H, nx, rm, wm, dfs⟩ = .ok v m' := h
    cases h
    exact ⟨_, rfl, rfl⟩
  · cases h

theorem callK_ok {c : Low} {f : Nat} {args : List AV} {v : AV} (h : callK c f args m = .ok v m') : ∃ m1, c.call f args ⟨m.H, m.nx, m.rm, m.wm, []⟩ = .ok v m1 ∧ m' = ⟨m1.H, m1.nx, m1.rm, m1.wm, m.dfs⟩ := by
  obtain ⟨H, nx, rm, wm, d⟩ := m
  exact lent_ok h

theorem roundK_ok {c : Low} {f : Nat} {args : List AV} {v : AV} (h : roundK c f args m = .ok v m') : ∃ m1, c.round f args ⟨m.H, m.nx, m.rm, m.wm, []⟩ = .ok v m1 ∧ m' = ⟨m1.H, m1.nx, m1.rm, m1.wm, m.dfs⟩ := by
  obtain ⟨H, nx, rm, wm, d⟩ := m
  exact lent_ok h

theorem hasBody_ok {f : Nat} (h : hasBody P f = true) : ∃ fn b, P.funcs[f]? = some fn ∧ fn.body = some b ∧ ∀ (args : Array Value) (w : World), (callFunc f args).run P w = .ok (.enter f args) w := by
  unfold hasBody at h
  split at h
  · rename_i fn hfn
    simp only [Bool.and_eq_true, bne_iff_ne, ne_eq] at h
    obtain ⟨b, hb⟩ := Option.isSome_iff_exists.1 h.1
    refine ⟨fn, b, hfn, hb, fun args w => ?_⟩
    simp [callFunc, hfn, hb, h.2]
  · cases h

theorem noEsc_find {fn : Func} (h : fn.name = "internal/abi.NoEscape") : Extern.find fn = some Extern.AbiNoEscape.same := by
  have h1 : Extern.allGenericRows.lookup "internal/abi.NoEscape" = none := by kernel_rfl
  have h2 : Extern.allTypedRows.lookup "internal/abi.NoEscape" = none := by kernel_rfl
  have h3 : Extern.allRows.lookup "internal/abi.NoEscape" = some Extern.AbiNoEscape.same := by kernel_rfl
  unfold Extern.find
  rw [h]
  simp only [h1, h2, h3, Option.map_none]
  rfl

theorem isNoEsc_ok {f : Nat} (h : isNoEsc P f = true) : ∃ fn, P.funcs[f]? = some fn ∧ ∀ (y : Value) (w : World), (callFunc f #[y]).run P w = .ok (.value y) w := by
  unfold isNoEsc at h
  split at h
  · rename_i fn hf
    simp only [Bool.and_eq_true, beq_iff_eq] at h
    obtain ⟨⟨h1, h2⟩, h3⟩ := h
    refine ⟨fn, hf, fun y w => ?_⟩
    have h4 : Extern.findNext fn = none := by simpa using h3
    have h5 := noEsc_find h2
    unfold callFunc
    simp only [Sem.run_bind, run_program, Result.andThen_ok, hf]
    rw [h2]
    simp [h1, h4, h5, Lib.run_noEscape]
  · cases h

theorem plainArgs_ok : ∀ {l : List AV} {vs xs : List Value}, plainArgs l = some vs → All2 (AR ρ) l xs → xs = vs
  | [], vs, xs, h, hx => by
    simp [plainArgs] at h; subst h
    cases xs with
    | nil => rfl
    | cons _ _ => exact hx.elim
  | c :: l, vs, xs, h, hx => by
    unfold plainArgs at h
    split at h
    · rename_i v r h1 h2
      cases h
      cases xs with
      | nil => exact hx.elim
      | cons x xs => rw [toAV_ok h1 hx.1, plainArgs_ok h2 hx.2]
    · cases h

/-- A call of a function, as it is worked out. -/
theorem call_wp {o : Oper} {c : Low} (hlow : LowOK P c) {f : Nat} {args : List AV} {vals : List Value} {v : AV} (h : callK c f args m = .ok v m') (hargs : All2 (AR ρ) args vals) (hw : WF P m) (hin : In A m m') (hr : Rel P B0 A ρ m.H w) (hfr : Fresh ρ m m')
    {a : Act} (hd : ∀ c, o.op ≠ .defer c) (hexec : (execOp a.eval o).run P w = .ok (.enter f vals.toArray) w) {F : Fence} (hF : Wide F) (n : Nat) {K : Act → World → Prop} {Q : Exit → Act → World → Prop}
    (hk : ∀ x w' ρ', Done P B0 A ρ m w v m' x w' ρ' → K (a.put o.dst x) w') : o.wpIn F n P a w K Q := by
  obtain ⟨m1, h1, rfl⟩ := callK_ok h
  have hmono := hlow.callM _ _ _ _ _ h1
  refine ⟨fun f _ => hF.fn f, ?_⟩
  rw [Oper.semAt_eq _ _ _ hd, hexec]
  refine ⟨fun h => (by rw [hF.depth] at h; cases h), hF.calls (CallsIn.mono (hlow.call _ _ _ _ _ h1 rfl B0 A ρ w vals ⟨hw.gnx, hw.cap, hw.dead⟩ hin hr hfr hargs (n - 1)) ?_)⟩
  rintro e w' ⟨x, ρ', rfl, hran⟩
  exact hk x w' ρ' ⟨hran.val, hran.post.marks rfl rfl rfl rfl, hmono.rm, hmono.wm, rfl⟩

theorem callD_ok {o : Oper} {c : Call} {f : Operand} (ho : o.op = .call c) (hc : c.callee = .value f) {D : Nat} : OpWp P o (callD P f c.args.toList (D := D)) := by
  have hd : ∀ c, o.op ≠ .defer c := fun c h => by rw [ho] at h; cases h
  have hexec : ∀ (a : Act) (fn : Fn) (first caps : Array Value) (w : World), a.eval f = .func fn first caps → (execOp a.eval o).run P w = (invoke (.fn fn caps) (first ++ c.args.map a.eval)).run P w := fun a fn first caps w hf => by
    unfold execOp
    rw [ho]
    simp only [resolve, hc, hf, Deferred.ofValue, Sem.run_bind, Sem.run_pure, Result.andThen_ok]
  have hexecV : ∀ f', f = f' → (∀ g, f' ≠ .func g) → OpWp P o (⟨fun cx e m => callV P c.args.toList cx.low e m ((evO P f').f e)⟩ : OpF D) := by
    rintro f' rfl hnf
    intro cx e m v m' h hlow B0 A N ρ a w hw hin hr he hfr F hF n K Q hk
    have hx : ∀ y, AR ρ ((evO P y).f e) (a.eval y) := fun y => he.eval hr.glob y
    have h : callV P c.args.toList cx.low e m ((evO P f).f e) = .ok v m' := h
    unfold callV at h
    split at h
    · rename_i g fa fb hfe
      rw [iff_eq] at h
      split at h
      · rename_i hb
        obtain ⟨args, h, hargs⟩ := evArgs_ok hx _ _ h
        have hfv := hx f
        rw [hfe] at hfv
        obtain ⟨pa, pb, hfv, hpa, hpb⟩ := hfv
        obtain ⟨fn, b, _, _, hcf⟩ := hasBody_ok hb
        have hall := ptrArgs_ok hpa (appA_ok hargs (ptrArgs_ok (k := []) (ks := []) hpb trivial))
        refine call_wp hlow h hall hw hin hr hfr hd ?_ hF n hk
        rw [hexec a _ _ _ w hfv]
        simp only [invoke, hcf]
        congr 2
        apply Array.ext'
        simp
      · cases h
    · rename_i id hfe
      obtain ⟨args, h, hargs⟩ := evArgs_ok hx _ _ h
      have hfv := hx f
      rw [hfe] at hfv
      obtain ⟨s, hs, hfv⟩ := hfv
      obtain ⟨m1, h1, rfl⟩ := roundK_ok h
      have hmono := hlow.roundM _ _ _ _ _ h1
      obtain ⟨g, tmps, as, bd, hy, hround⟩ := hlow.round _ _ _ _ _ h1 rfl B0 A ρ w _ s ⟨hw.gnx, hw.cap, hw.dead⟩ hin hr hfr hargs hs
      refine ⟨fun f _ => hF.fn f, ?_⟩
      rw [Oper.semAt_eq _ _ _ hd, hexec a _ _ _ w hfv]
      have hinv : (invoke (.fn (.yield s.blk) #[]) (#[] ++ c.args.map a.eval)).run P w = .ok (.round s.blk g tmps as bd) w := by
        simp only [invoke]
        rw [← hy]
        congr 2
        apply Array.ext'
        simp
      rw [hinv]
      refine ⟨fun h => (by rw [hF.depth] at h; cases h), hF.rounds (RoundIn.mono (hround (n - 1)) ?_)⟩
      rintro e w' ⟨x, ρ', rfl, hran⟩
      exact hk x w' ρ' ⟨hran.val, hran.post.marks rfl rfl rfl rfl, hmono.rm, hmono.wm, rfl⟩
    · cases h
  unfold callD
  split
  · rename_i g
    rw [iff_eq]
    split
    · rename_i hb
      intro cx e m v m' h hlow B0 A N ρ a w hw hin hr he hfr F hF n K Q hk
      have hx : ∀ y, AR ρ ((evO P y).f e) (a.eval y) := fun y => he.eval hr.glob y
      have h : (evArgs P c.args.toList).f e (fun l => callK cx.low g l m) = .ok v m' := h
      obtain ⟨args, h, hargs⟩ := evArgs_ok hx _ _ h
      obtain ⟨fn, b, _, _, hcf⟩ := hasBody_ok hb
      refine call_wp hlow h hargs hw hin hr hfr hd ?_ hF n hk
      rw [hexec a _ _ _ w rfl]
      simp only [invoke, hcf]
      congr 2
      apply Array.ext'
      simp
    · intro cx e m v m' h hlow B0 A N ρ a w hw hin hr he hfr F hF n K Q hk
      have hx : ∀ y, AR ρ ((evO P y).f e) (a.eval y) := fun y => he.eval hr.glob y
      have h : (evArgs P c.args.toList).f e (fun l => externK P g l m) = .ok v m' := h
      obtain ⟨args, h, hargs⟩ := evArgs_ok hx _ _ h
      unfold externK at h
      split at h
      · rename_i vs hvs
        obtain ⟨y, hy, rfl, hay⟩ := backN_ok h
        have hrun := arun_ok (P := P) _ hy w
        refine runs_wp (x := y) (w' := w) (.inl ?_) hd hF n (hk y w ρ (Done.pure hw hr (hay ρ)))
        rw [hexec a _ _ _ w rfl]
        simp only [invoke]
        have hv := plainArgs_ok hvs hargs
        have e1 : (#[] ++ c.args.map a.eval ++ #[] : Array Value) = vs.toArray := by
          apply Array.ext'
          simp [← hv]
        rw [e1]; exact hrun
      · unfold noEsc at h
        split at h
        · rename_i id off
          rw [iff_eq] at h
          split at h
          · rename_i hb
            cases h
            obtain ⟨fn, hfn, hcf⟩ := isNoEsc_ok hb
            cases hl : c.args.toList.map a.eval with
            | nil => rw [hl] at hargs; exact hargs.elim
            | cons y r =>
              cases r with
              | cons _ _ => rw [hl] at hargs; exact hargs.2.elim
              | nil =>
                rw [hl] at hargs
                refine runs_wp (x := y) (w' := w) (.inl ?_) hd hF n (hk y w ρ (Done.pure hw hr hargs.1))
                rw [hexec a _ _ _ w rfl]
                simp only [invoke]
                have e1 : (#[] ++ c.args.map a.eval ++ #[] : Array Value) = #[y] := by
                  apply Array.ext'
                  simp [hl]
                rw [e1]; exact hcf y w
          · cases h
        · cases h
  · rename_i hne
    exact hexecV _ rfl fun g hg => hne g hg

theorem callD_mono {f : Operand} {args : List Operand} {D : Nat} {c : Ctx} (hc : LowOK P c.low) (e : NT D AV) {m0 m : M} (hm : Mono P m0 m) : MonoR P m0 ((callD P f args (D := D)).f c e m) := by
  have hcall : ∀ g l, MonoR P m0 (callK c.low g l m) := fun g l v m' h => by
    obtain ⟨m1, h1, rfl⟩ := callK_ok h
    have := hc.callM _ _ _ _ _ h1
    exact hm.trans (Mono.dfs' (this.dfs _))
  have hround : ∀ g l, MonoR P m0 (roundK c.low g l m) := fun g l v m' h => by
    obtain ⟨m1, h1, rfl⟩ := roundK_ok h
    have := hc.roundM _ _ _ _ _ h1
    exact hm.trans (Mono.dfs' (this.dfs _))
  unfold callD; split
  · rw [iff_eq]; split
    · exact evArgs_mono (fun l => hcall _ _) _
    · refine evArgs_mono (fun l => ?_) _
      unfold externK; split
      · exact .backN hm
      · unfold noEsc; split
        · exact .iff (.ok hm) (.fail _)
        · exact .fail _
  · show MonoR P m0 (callV P args c.low e m _)
    unfold callV; split
    · exact .iff (evArgs_mono (fun l => hcall _ _) _) (.fail _)
    · exact evArgs_mono (fun l => hround _ _) _
    · exact .fail _

/-! ### All operations -/

theorem opD_ok (o : Oper) {D : Nat} : OpWp P o (opD P o (D := D)) := by
  have nd : ∀ {op : Op}, o.op = op → (∀ c, op ≠ .defer c) → ∀ c, o.op ≠ .defer c := fun h h' c => by rw [h]; exact h' c
  unfold opD
  split
  · rename_i x h; exact (moveD_ok (.inl h)).wp (nd h fun _ => by simp)
  · rename_i x h; exact (moveD_ok (.inr h)).wp (nd h fun _ => by simp)
  · rename_i h; exact (pickD_ok h).wp (nd h fun _ => by simp)
  · rename_i h; exact (allocD_ok h).wp (nd h fun _ => by simp)
  · rename_i h; exact (boxD_ok h).wp (nd h fun _ => by simp)
  · rename_i h; exact (buildD_ok h).wp (nd h fun _ => by simp)
  · rename_i h; exact (buildSliceD_ok h).wp (nd h fun _ => by simp)
  · rename_i h; exact (loadD_ok h).wp (nd h fun _ => by simp)
  · rename_i h; exact (storeD_ok h).wp (nd h fun _ => by simp)
  · rename_i h; exact (nilCheckD_ok h).wp (nd h fun _ => by simp)
  · rename_i h; exact (binD_ok h).wp (nd h fun _ => by simp)
  · rename_i h; exact (unD_ok h).wp (nd h fun _ => by simp)
  · rename_i h; exact (convertD_ok h).wp (nd h fun _ => by simp)
  · rename_i h; exact (makeFuncD_ok h).wp (nd h fun _ => by simp)
  · rename_i h; exact (makeMapD_ok h).wp (nd h fun _ => by simp)
  · rename_i h; exact (makeSliceD_ok h).wp (nd h fun _ => by simp)
  · rename_i h; exact (sliceD_ok h).wp (nd h fun _ => by simp)
  · rename_i h; exact (fieldAddrD_ok h).wp (nd h fun _ => by simp)
  · rename_i h; exact (fieldD_ok h).wp (nd h fun _ => by simp)
  · rename_i h; exact (indexAddrD_ok h).wp (nd h fun _ => by simp)
  · rename_i h; exact (indexD_ok h).wp (nd h fun _ => by simp)
  · rename_i h; exact (lookupD_ok h).wp (nd h fun _ => by simp)
  · rename_i h; exact (mapUpdateD_ok (.inl h)).wp (nd h fun _ => by simp)
  · rename_i h; exact (mapUpdateD_ok (.inr h)).wp (nd h fun _ => by simp)
  · rename_i h; exact (extractD_ok h).wp (nd h fun _ => by simp)
  · rename_i c h
    split
    · rename_i f hf; exact callD_ok h hf
    · rename_i b hb; exact (builtinD_ok h hb).wp (nd h fun _ => by simp)
    · exact OpWp.no
  · exact OpWp.no

theorem opD_mono (o : Oper) {D : Nat} {c : Ctx} (hc : LowOK P c.low) (e : NT D AV) {m0 m : M} (hm : Mono P m0 m) : MonoR P m0 ((opD P o (D := D)).f c e m) := by
  unfold opD
  split
  · exact moveD_mono c e m0 m hm
  · exact moveD_mono c e m0 m hm
  · exact pickD_mono c e m0 m hm
  · exact allocD_mono c e m0 m hm
  · exact boxD_mono c e m0 m hm
  · exact buildD_mono c e m0 m hm
  · exact buildSliceD_mono c e m0 m hm
  · exact loadD_mono c e m0 m hm
  · exact storeD_mono c e m0 m hm
  · exact nilCheckD_mono c e m0 m hm
  · exact binD_mono c e m0 m hm
  · exact unD_mono c e m0 m hm
  · exact convertD_mono c e m0 m hm
  · exact makeFuncD_mono c e m0 m hm
  · exact makeMapD_mono c e m0 m hm
  · exact makeSliceD_mono c e m0 m hm
  · exact sliceD_mono c e m0 m hm
  · exact fieldAddrD_mono c e m0 m hm
  · exact fieldD_mono c e m0 m hm
  · exact indexAddrD_mono c e m0 m hm
  · exact indexD_mono c e m0 m hm
  · exact lookupD_mono c e m0 m hm
  · exact mapUpdateD_mono c e m0 m hm
  · exact mapUpdateD_mono c e m0 m hm
  · exact extractD_mono c e m0 m hm
  · split
    · exact callD_mono hc e hm
    · exact builtinD_mono c e m0 m hm
    · exact .fail _
  · exact .fail _

end Go.CE
end WP

/- Regions in the text's order; code put together. No program is named. -/
noncomputable section WQ
namespace Go.CE
open Go

variable {P : Program} {B0 : Nat} {A W W' : Nat → Prop} {ρ ρ' ρ'' : Rho} {m m' m'' : M} {w w' w'' : World}

/-- The marks of deferred calls. -/
def DR (ρ : Rho) (dfs : List Nat) (ds : List Deferred) : Prop := All2 (fun id d => ∃ s, ρ id = some s ∧ d = { target := .collected s.blk, args := #[] }) dfs ds

theorem DR.mono (h : Ext ρ ρ') {dfs : List Nat} {ds : List Deferred} (hd : DR ρ dfs ds) : DR ρ' dfs ds := All2.mono (fun _ _ ⟨s, h1, h2⟩ => ⟨s, h _ _ h1, h2⟩) hd

/-- What code has done. -/
structure Gone (P : Program) (B0 : Nat) (A : Nat → Prop) (N D : Nat) (ρ : Rho) (m : M) (w : World) (e' : NT D AV) (m' : M) (a' : Act) (w' : World) (ρ' : Rho) : Prop where
  env : ENV ρ' N D e' a'.tmps
  dfs : DR ρ' m'.dfs a'.defers
  post : Post P B0 A (fun id => m'.wm ≤ id) ρ m w ρ' m' w'

def exOf : Ex → Exit
  | .norm => .normal
  | .exit id => .exit id
  | .goto l => .goto l
  | .ret => .ret

/-- The fence that belongs to a round (or to none). -/
def FOK (ρ : Rho) (rnd : Option Nat) (F : Fence) : Prop :=
  match rnd with
  | none => F = Fence.wide
  | some id => ∃ s, ρ id = some s ∧ F = Fence.wide.inRound s.blk

theorem FOK.wide {rnd : Option Nat} {F : Fence} (h : FOK ρ rnd F) : Wide F := by
  cases rnd with
  | none => exact .inl h
  | some id => obtain ⟨s, _, h⟩ := h; exact .inr ⟨_, h⟩

theorem FOK.mono (hx : Ext ρ ρ') {rnd : Option Nat} {F : Fence} (h : FOK ρ rnd F) : FOK ρ' rnd F := by
  cases rnd with
  | none => exact h
  | some id => obtain ⟨s, hs, h⟩ := h; exact ⟨s, hx _ _ hs, h⟩

/-- What is said of code that ends so. -/
def goneQ (P : Program) (B0 : Nat) (A : Nat → Prop) (N : Nat) {D : Nat} (ρ : Rho) (m : M) (w : World) (x : Ex) (e' : NT D AV) (m' : M) : Exit → Act → World → Prop :=
  fun ex a' w' => ∃ ρ', ex = exOf x ∧ Gone P B0 A N D ρ m w e' m' a' w' ρ'

structure CodeOK (P : Program) (c : Code) (N : Nat) {D : Nat} (d : Dn D) : Prop where
  mono : ∀ (cx : Ctx) (e : NT D AV) (m : M) (x : Ex) (e' : NT D AV) (m' : M), LowOK P cx.low → d.f cx e m = .ok x e' m' → Mono P m m'
  wp : ∀ (cx : Ctx) (e : NT D AV) (m : M) (x : Ex) (e' : NT D AV) (m' : M), LowOK P cx.low → d.f cx e m = .ok x e' m' →
    ∀ (B0 : Nat) (A : Nat → Prop) (ρ : Rho) (a : Act) (w : World), WF P m → In A m m' → Rel P B0 A ρ m.H w → ENV ρ N D e a.tmps → Fresh ρ m m' → DR ρ m.dfs a.defers →
      ∀ (F : Fence), FOK ρ cx.rnd F → ∀ n, c.wpIn F n P (goneQ P B0 A N ρ m w x e' m') a w

/-! ### One behind the other -/

theorem In.first (h : In A m m'') (h2 : Mono P m' m'') : In A m m' := fun id hid => h id (hid.imp (fun h' => Nat.le_trans h2.rm h') fun h => h)
theorem In.second (h : In A m m'') (h1 : Mono P m m') : In A m' m'' := fun id hid => h id (hid.imp (fun h => h) fun h' => Nat.le_trans h1.nx h')
theorem Fresh.first (h : Fresh ρ m m'') (h2 : Mono P m' m'') : Fresh ρ m m' := fun id h1 h3 => h id h1 (Nat.lt_of_lt_of_le h3 h2.nx)
theorem Fresh.second (h : Fresh ρ m m'') (h1 : Mono P m m') (hp : Post P B0 A W ρ m w ρ' m' w') : Fresh ρ' m' m'' := fun id h2 h3 => by
  cases h0 : ρ' id with
  | none => rfl
  | some s =>
    rcases hp.dom id s h0 with h4 | h4
    · rw [h id (Nat.le_trans h1.nx h2) h3] at h4; cases h4
    · omega

theorem Post.behind (h1 : Post P B0 A (fun id => m'.wm ≤ id) ρ m w ρ' m' w') (h2 : Post P B0 A (fun id => m''.wm ≤ id) ρ' m' w' ρ'' m'' w'') (hm : Mono P m' m'') (hf : Fresh ρ m m'') : Post P B0 A (fun id => m''.wm ≤ id) ρ m w ρ'' m'' w'' :=
  (h1.more fun _id hid => Nat.le_trans hm.wm hid).trans h2 hf

theorem Gone.behind {N D : Nat} {e'' : NT D AV} {a'' : Act} (h1 : Post P B0 A (fun id => m'.wm ≤ id) ρ m w ρ' m' w') (h2 : Gone P B0 A N D ρ' m' w' e'' m'' a'' w'' ρ'') (hm : Mono P m' m'') (hf : Fresh ρ m m'') :
    Gone P B0 A N D ρ m w e'' m'' a'' w'' ρ'' := ⟨h2.env, h2.dfs, h1.behind h2.post hm hf⟩

/-! ### Temporaries set -/

def putE (N : Nat) {D : Nat} (dst : Option Tmp) (e : NT D AV) (v : AV) : NT D AV := (putD N dst).f e v id

theorem putD_eq {β : Type} (N : Nat) {D : Nat} (dst : Option Tmp) (e : NT D AV) (v : AV) (k : NT D AV → β) : (putD N dst).f e v k = k (putE N dst e v) := by
  unfold putE
  cases dst with
  | none => rfl
  | some d =>
    unfold putD
    simp only [iff_ble]
    split
    · rw [setN_eq, setN_eq]; rfl
    · rfl

theorem ENV.putE {N D : Nat} {e : NT D AV} {a : Act} (he : ENV ρ N D e a.tmps) {v : AV} {x : Value} (hv : AR ρ v x) (dst : Option Tmp) : ENV ρ N D (putE N dst e v) (a.put dst x).tmps := by
  obtain ⟨e', h1, h2⟩ := he.put hv dst id
  have : CE.putE N dst e v = e' := h1
  rw [this]; exact h2

theorem put_defers (a : Act) (dst : Option Tmp) (x : Value) : (a.put dst x).defers = a.defers := by cases dst <;> rfl

/-! ### Regions in the text's order -/

theorem onOk_ok {D : Nat} {r : RO} {k : AV → M → R D} {x : Ex} {e' : NT D AV} (h : onOk r .fail k = .ok x e' m') : ∃ v m1, r = .ok v m1 ∧ k v m1 = .ok x e' m' := by
  cases r with
  | fail w => cases h
  | ok v m1 => exact ⟨v, m1, rfl, h⟩

/-- A guard, as it stands. -/
theorem guard_ok {N D : Nat} {e : NT D AV} {a : Act} (he : ENV ρ N D e a.tmps) (ops : Array Oper) (o : Oper) :
    ((guardD N ops o).f e = .run → Region.wanted o (yielded ops a.tmps) = true) ∧ ((guardD N ops o).f e = .skip → Region.wanted o (yielded ops a.tmps) = false) := by
  unfold guardD Region.wanted
  cases hg : o.guard with
  | none => exact ⟨fun _ => rfl, fun h => by cases h⟩
  | some p =>
    obtain ⟨j, want⟩ := p
    simp only
    unfold yielded
    cases hd : (ops[j]?).bind (·.dst) with
    | none => exact ⟨fun h => (by cases h), fun _ => rfl⟩
    | some t =>
      simp only [iff_ble, Option.bind_some]
      by_cases ht : t < N
      · rw [if_pos (Nat.succ_le_of_lt ht)]
        have hv := he.get t (Nat.lt_of_lt_of_le ht he.cap)
        have hts : a.tmps[t]? = some (a.tmps.getD t undef) := by
          rw [Array.getD_eq_getD_getElem?, Array.getElem?_eq_getElem (by rw [he.size]; exact ht)]; rfl
        rw [hts]
        simp only
        revert hv
        generalize a.tmps.getD t undef = v
        generalize (getN D t).f e = av
        intro hv
        unfold gdOf
        split
        · rename_i b
          have hv : v = .bool b := hv
          subst hv
          cases b <;> cases want <;> exact ⟨fun h => (by first | rfl | cases h), fun h => (by first | rfl | cases h)⟩
        · obtain ⟨vs, hv, hall⟩ := hv
          have : vs = #[] := by
            apply Array.ext'
            cases hvs : vs.toList with
            | nil => rfl
            | cons a l => rw [hvs] at hall; exact hall.elim
          subst this
          subst hv
          exact ⟨fun h => (by cases h), fun _ => rfl⟩
        · exact ⟨fun h => (by cases h), fun h => by cases h⟩
      · rw [if_neg (fun h => ht (Nat.lt_of_succ_le h))]
        have hts : a.tmps[t]? = none := Array.getElem?_eq_none (by rw [he.size]; exact Nat.le_of_not_lt ht)
        rw [hts]
        exact ⟨fun h => (by cases h), fun _ => rfl⟩

theorem runOps_cons {N D : Nat} (ops : Array Oper) (o : Oper) (r : List Oper) (c : Ctx) (e : NT D AV) (m : M) {x : Ex} {e' : NT D AV} (h : (runOps P N ops (o :: r)).f c e m = .ok x e' m') :
    ((guardD N ops o).f e = .run ∧ ∃ v m1, (opD P o).f c e m = .ok v m1 ∧ (runOps P N ops r).f c (putE N o.dst e v) m1 = .ok x e' m') ∨
    ((guardD N ops o).f e = .skip ∧ (runOps P N ops r).f c (putE N o.dst e undefA) m = .ok x e' m') := by
  have run : onOk ((opD P o).f c e m) .fail (fun v m => (putD N o.dst).f e v fun e => (runOps P N ops r).f c e m) = .ok x e' m' → ∃ v m1, (opD P o).f c e m = .ok v m1 ∧ (runOps P N ops r).f c (putE N o.dst e v) m1 = .ok x e' m' := fun h => by
    obtain ⟨v, m1, h1, h2⟩ := onOk_ok h
    rw [putD_eq] at h2
    exact ⟨v, m1, h1, h2⟩
  unfold runOps at h
  cases hg : o.guard with
  | none =>
    rw [hg] at h
    refine .inl ⟨?_, run h⟩
    unfold guardD; rw [hg]
  | some p =>
    rw [hg] at h
    have h : byGd ((guardD N ops o).f e) (onOk ((opD P o).f c e m) .fail fun v m => (putD N o.dst).f e v fun e => (runOps P N ops r).f c e m) ((putD N o.dst).f e undefA fun e => (runOps P N ops r).f c e m) (.fail [176]) = .ok x e' m' := h
    cases hgd : (guardD N ops o).f e with
    | run => rw [hgd] at h; exact .inl ⟨rfl, run h⟩
    | skip =>
      rw [hgd] at h
      have h : (putD N o.dst).f e undefA (fun e => (runOps P N ops r).f c e m) = .ok x e' m' := h
      rw [putD_eq] at h
      exact .inr ⟨rfl, h⟩
    | bad => rw [hgd] at h; cases h

theorem runOps_mono {N D : Nat} (ops : Array Oper) {c : Ctx} (hc : LowOK P c.low) : ∀ (l : List Oper) (e : NT D AV) (m : M) {x : Ex} {e' : NT D AV} {m' : M}, (runOps P N ops l).f c e m = .ok x e' m' → Mono P m m'
  | [], e, m, x, e', m', h => by
    have h : R.ok .norm e m = .ok x e' m' := h
    cases h; exact Mono.refl _
  | o :: r, e, m, x, e', m', h => by
    rcases runOps_cons ops o r c e m h with ⟨_, v, m1, h1, h2⟩ | ⟨_, h2⟩
    · exact (opD_mono o hc e (Mono.refl m) v m1 h1).trans (runOps_mono ops hc r _ _ h2)
    · exact runOps_mono ops hc r _ _ h2

theorem runOps_ok {N D : Nat} (ops : Array Oper) {c : Ctx} (hc : LowOK P c.low) {F : Fence} (hF : Wide F) (n : Nat) : ∀ (l : List Oper) (i : Nat), ops.toList.drop i = l → ∀ (e : NT D AV) (m : M) {x : Ex} {e' : NT D AV} {m' : M}, (runOps P N ops l).f c e m = .ok x e' m' →
    ∀ (ρ : Rho) (a : Act) (w : World), WF P m → In A m m' → Rel P B0 A ρ m.H w → ENV ρ N D e a.tmps → Fresh ρ m m' → DR ρ m.dfs a.defers →
      ∀ (Q : Exit → Act → World → Prop), (∀ a' w' ρ', x = .norm → Gone P B0 A N D ρ m w e' m' a' w' ρ' → Q .normal a' w') → wpOpsIn F n P ops Q (List.range' i l.length) a w
  | [], i, hl, e, m, x, e', m', h => by
    intro ρ a w hw hin hr he hf hd Q hQ
    have h : R.ok .norm e m = .ok x e' m' := h
    cases h
    exact hQ a w ρ rfl ⟨he, hd, Post.refl hw hr⟩
  | o :: r, i, hl, e, m, x, e', m', h => by
    intro ρ a w hw hin hr he hf hd Q hQ
    have hoi : ops[i]? = some o := by
      rw [← Array.getElem?_toList]
      have := congrArg (·[0]?) hl
      simpa using this
    have hdrop : ops.toList.drop (i + 1) = r := by
      have := congrArg List.tail hl
      simpa using this
    have hg := guard_ok he ops o
    rw [List.length_cons, List.range'_succ]
    simp only [wpOpsIn, hoi]
    rcases runOps_cons ops o r c e m h with ⟨hgd, v, m1, h1, h2⟩ | ⟨hgd, h2⟩
    · rw [hg.1 hgd]
      simp only [if_true]
      have mo1 := opD_mono o hc e (Mono.refl m) v m1 h1
      have mo2 := runOps_mono ops hc r _ _ h2
      refine opD_ok o c e m v m1 h1 hc B0 A N ρ a w hw (hin.first mo2) hr he (hf.first mo2) F hF n _ Q fun y w1 ρ1 hdone => ?_
      refine runOps_ok ops hc hF n r (i + 1) hdrop _ m1 h2 ρ1 _ w1 hdone.post.wf (hin.second mo1) hdone.post.rel ((he.mono hdone.post.ext).putE hdone.val o.dst) (hf.second mo1 hdone.post) ?_ Q fun a' w' ρ' hx hgone => hQ a' w' ρ' hx (hgone.behind hdone.post mo2 hf)
      rw [put_defers, hdone.dfs]; exact hd.mono hdone.post.ext
    · rw [hg.2 hgd]
      simp only [Bool.false_eq_true, if_false]
      refine ⟨fun f _ => hF.fn f, runOps_ok ops hc hF n r (i + 1) hdrop _ m h2 ρ _ w hw hin hr (he.putE (AR.undef ρ) o.dst) hf (by rw [put_defers]; exact hd) Q hQ⟩

theorem runOps_norm {N D : Nat} (ops : Array Oper) {c : Ctx} : ∀ (l : List Oper) (e : NT D AV) (m : M) {x : Ex} {e' : NT D AV} {m' : M}, (runOps P N ops l).f c e m = .ok x e' m' → x = .norm
  | [], e, m, x, e', m', h => by
    have h : R.ok .norm e m = .ok x e' m' := h
    cases h; rfl
  | o :: r, e, m, x, e', m', h => by
    rcases runOps_cons ops o r c e m h with ⟨_, v, m1, h1, h2⟩ | ⟨_, h2⟩
    · exact runOps_norm ops r _ _ h2
    · exact runOps_norm ops r _ _ h2

theorem region_ok (id : Nat) (ops : Array Oper) (N : Nat) {D : Nat} : CodeOK P (.region id ops false) N (runOps P N ops ops.toList (D := D)) := by
  refine ⟨fun cx e m x e' m' hc h => runOps_mono ops hc _ _ _ h, fun cx e m x e' m' hc h B0 A ρ a w hw hin hr he hf hd F hF n => wpIn_region ?_⟩
  have := runOps_ok (B0 := B0) (A := A) ops hc hF.wide n ops.toList 0 rfl e m h ρ a w hw hin hr he hf hd (goneQ P B0 A N ρ m w x e' m') fun a' w' ρ' hx hg => ⟨ρ', by rw [hx]; rfl, hg⟩
  rw [Array.length_toList, ← List.range_eq_range'] at this
  exact this

end Go.CE
end WQ

/- Code put together. No program is named. -/
noncomputable section WR
namespace Go.CE
open Go

variable {P : Program} {B0 : Nat} {A W W' : Nat → Prop} {ρ ρ' ρ'' : Rho} {m m' m'' : M} {w w' w'' : World}

/-! ### Scopes, whatever jumps there are -/

section
variable {b : Frame} {a : Act} {k : List Item} {cs : List Frame}

theorem stepR_scope {c : Code} : step P (lone (b.atR a (.code (.scope c) :: k)) cs w) = .next (lone (b.atR a (.code c :: .inScope c :: k)) cs w) :=
  step_lone_go (by simp [stepG, stepG.exec, Frame.atR])

theorem stepR_inScope {c : Code} : step P (lone (b.atR a (.inScope c :: k)) cs w) = .next (lone (b.atR a k) cs w) :=
  step_lone_go (by simp [stepG, stepG.exec, Frame.atR])
end

/-- So many pieces of a scope, each begun at a label. -/
def scopeRounds (F : Fence) (n : Nat) (P : Program) (c : Code) (Q : Exit → Act → World → Prop) : Nat → Code → Act → World → Prop
  | 0, _, _, _ => False
  | j + 1, x, a, w => x.wpIn F n P (fun ex a w => match ex with
      | .goto l => (match findLabel c l with
        | some rest => scopeRounds F n P c Q j rest a w
        | none => Q (.goto l) a w)
      | e => Q e a w) a w

theorem wpIn_scope {F : Fence} {n : Nat} {Q : Exit → Act → World → Prop} {a : Act} {c : Code} (j : Nat) (h : scopeRounds F n P c Q j c a w) : (Code.scope c).wpIn F n P Q a w := by
  intro b k cs hro hb hr
  have key : ∀ j x a w, scopeRounds F n P c Q j x a w →
      ∃ e a' w', Q e a' w' ∧ ArrivesIn (Machine.fenced P F) P (lone (b.atR a (.code x :: .inScope c :: k)) cs w) b k cs e a' w' := by
    intro j
    induction j with
    | zero => intro x a w h; exact h.elim
    | succ j ih =>
      intro x a w h
      obtain ⟨e, a₁, w₁, hq, harr⟩ := h b (.inScope c :: k) cs hro hb hr
      cases e with
      | normal => exact ⟨.normal, a₁, w₁, hq, StepsIn.trans harr (.one (fenced_calm hb hr rfl) stepR_inScope)⟩
      | exit id =>
        exact ⟨.exit id, a₁, w₁, hq, fun k' hk => harr.1 k' (by simpa [exitTo] using hk), fun hr' hk => harr.2 hr' (by simpa [exitTo] using hk)⟩
      | goto l =>
        simp only at hq
        cases hfl : findLabel c l with
        | some rest =>
          rw [hfl] at hq
          obtain ⟨e₂, a₂, w₂, hq₂, harr₂⟩ := ih rest a₁ w₁ hq
          exact ⟨e₂, a₂, w₂, hq₂, .of_steps (harr.1 _ (by simp [gotoIn, hfl])) harr₂⟩
        | none =>
          rw [hfl] at hq
          exact ⟨.goto l, a₁, w₁, hq, fun k' hk => harr.1 k' (by simpa [gotoIn, hfl] using hk), fun hr' hk => harr.2 hr' (by simpa [gotoIn, hfl] using hk)⟩
      | ret => exact ⟨_, a₁, w₁, hq, harr⟩
      | panic ch => exact ⟨_, a₁, w₁, hq, harr⟩
      | outgrown => exact ⟨_, a₁, w₁, hq, harr⟩
  obtain ⟨e, a', w', hq, harr⟩ := key j c a w h
  exact ⟨e, a', w', hq, .of_steps (.one (fenced_calm hb hr rfl) stepR_scope) harr⟩

/-! ### What code is, put together -/

theorem CodeOK.on {c : Code} {N D : Nat} {d : Dn D} (h : CodeOK P c N d) {cx : Ctx} {e : NT D AV} {x : Ex} {e' : NT D AV} (hc : LowOK P cx.low) (hd : d.f cx e m = .ok x e' m') {a : Act}
    (hw : WF P m) (hin : In A m m') (hr : Rel P B0 A ρ m.H w) (he : ENV ρ N D e a.tmps) (hf : Fresh ρ m m') (hdr : DR ρ m.dfs a.defers) {F : Fence} (hF : FOK ρ cx.rnd F) (n : Nat)
    {Q : Exit → Act → World → Prop} (hQ : ∀ a' w' ρ', Gone P B0 A N D ρ m w e' m' a' w' ρ' → Q (exOf x) a' w') : c.wpIn F n P Q a w := by
  refine wpIn_mono (h.wp cx e m x e' m' hc hd B0 A ρ a w hw hin hr he hf hdr F hF n) ?_
  rintro ex a' w' ⟨ρ', rfl, hg⟩
  exact hQ a' w' ρ' hg

theorem onEx_ok {D : Nat} {r : R D} {k : Ex → NT D AV → M → R D} {x : Ex} {e' : NT D AV} (h : onEx r .fail k = .ok x e' m') : ∃ x1 e1 m1, r = .ok x1 e1 m1 ∧ k x1 e1 m1 = .ok x e' m' := by
  cases r with
  | fail w => cases h
  | ok x1 e1 m1 => exact ⟨x1, e1, m1, rfl, h⟩

/-- Code that ends at once. -/
theorem leaf_ok' {c : Code} {N D : Nat} (x0 : Ex) (h : ∀ (F : Fence) (n : Nat) (Q : Exit → Act → World → Prop) (a : Act) (w : World), Q (exOf x0) a w → c.wpIn F n P Q a w) : CodeOK P c N (⟨fun _ e m => .ok x0 e m⟩ : Dn D) := by
  refine ⟨fun cx e m x e' m' _ hd => ?_, fun cx e m x e' m' hc hd B0 A ρ a w hw hin hr he hf hdr F hF n => ?_⟩
  · have hd : R.ok x0 e m = .ok x e' m' := hd
    cases hd; exact Mono.refl _
  · have hd : R.ok x0 e m = .ok x e' m' := hd
    cases hd
    exact h F n _ a w ⟨ρ, rfl, he, hdr, Post.refl hw hr⟩

theorem skip_ok {N D : Nat} : CodeOK P .skip N (⟨fun _ e m => .ok .norm e m⟩ : Dn D) := leaf_ok' .norm fun _ _ _ _ _ h => wpIn_skip h
theorem label_ok {l N D : Nat} : CodeOK P (.label l) N (⟨fun _ e m => .ok .norm e m⟩ : Dn D) := leaf_ok' .norm fun _ _ _ _ _ h => wpIn_label h
theorem exit_ok {id N D : Nat} : CodeOK P (.exit id) N (⟨fun _ e m => .ok (.exit id) e m⟩ : Dn D) := leaf_ok' (.exit id) fun _ _ _ _ _ h => wpIn_exit h
theorem goto_ok {l N D : Nat} : CodeOK P (.goto l) N (⟨fun _ e m => .ok (.goto l) e m⟩ : Dn D) := leaf_ok' (.goto l) fun _ _ _ _ _ h => wpIn_goto h
theorem ret_ok {N D : Nat} : CodeOK P .ret N (⟨fun _ e m => .ok .ret e m⟩ : Dn D) := leaf_ok' .ret fun _ _ _ _ _ h => wpIn_ret h
theorem fail_ok {c : Code} {N D : Nat} {k : List Nat} : CodeOK P c N (⟨fun _ _ _ => .fail k⟩ : Dn D) := ⟨fun _ _ _ _ _ _ _ h => (by cases h), fun _ _ _ _ _ _ _ h => (by cases h)⟩

theorem thenX_ok {D : Nat} {k : NT D AV → M → R D} {x1 x : Ex} {e1 e' : NT D AV} {m1 : M} (h : thenX k x1 e1 m1 = .ok x e' m') : (x1 = .norm ∧ k e1 m1 = .ok x e' m') ∨ (x1 ≠ .norm ∧ x = x1 ∧ e' = e1 ∧ m' = m1) := by
  cases x1 with
  | norm => exact .inl ⟨rfl, h⟩
  | exit id =>
    have h : R.ok (.exit id) e1 m1 = .ok x e' m' := h
    cases h; exact .inr ⟨fun h => (by cases h), rfl, rfl, rfl⟩
  | goto l =>
    have h : R.ok (.goto l) e1 m1 = .ok x e' m' := h
    cases h; exact .inr ⟨fun h => (by cases h), rfl, rfl, rfl⟩
  | ret =>
    have h : R.ok .ret e1 m1 = .ok x e' m' := h
    cases h; exact .inr ⟨fun h => (by cases h), rfl, rfl, rfl⟩

theorem then_other {K : Act → World → Prop} {Q : Exit → Act → World → Prop} {x : Ex} (hx : x ≠ .norm) {a : Act} (h : Q (exOf x) a w) : Exit.then K Q (exOf x) a w := by
  cases x with
  | norm => exact absurd rfl hx
  | _ => exact h

theorem seq_ok {c1 c2 : Code} {N D : Nat} {d1 d2 : Dn D} (h1 : CodeOK P c1 N d1) (h2 : CodeOK P c2 N d2) : CodeOK P (.seq c1 c2) N (seqD d1 d2) := by
  refine ⟨fun cx e m x e' m' hc hd => ?_, fun cx e m x e' m' hc hd B0 A ρ a w hw hin hr he hf hdr F hF n => ?_⟩
  · obtain ⟨x1, e1, m1, ha, hb⟩ := onEx_ok hd
    have mo1 := h1.mono cx e m x1 e1 m1 hc ha
    rcases thenX_ok hb with ⟨_, hb⟩ | ⟨_, _, _, rfl⟩
    · exact mo1.trans (h2.mono cx e1 m1 x e' m' hc hb)
    · exact mo1
  · obtain ⟨x1, e1, m1, ha, hb⟩ := onEx_ok hd
    have mo1 := h1.mono cx e m x1 e1 m1 hc ha
    refine wpIn_seq ?_
    rcases thenX_ok hb with ⟨rfl, hb⟩ | ⟨hx, rfl, rfl, rfl⟩
    · have mo2 := h2.mono cx e1 m1 x e' m' hc hb
      refine h1.on hc ha hw (hin.first mo2) hr he (hf.first mo2) hdr hF n fun a1 w1 ρ1 g1 => ?_
      exact h2.on hc hb g1.post.wf (hin.second mo1) g1.post.rel g1.env (hf.second mo1 g1.post) g1.dfs (hF.mono g1.post.ext) n fun a2 w2 ρ2 g2 => ⟨ρ2, rfl, g2.behind g1.post mo2 hf⟩
    · exact h1.on hc ha hw hin hr he hf hdr hF n fun a1 w1 ρ1 g1 => then_other hx ⟨ρ1, rfl, g1⟩

theorem cond_ok {x : Operand} {c1 c2 : Code} {N D : Nat} {d1 d2 : Dn D} (h1 : CodeOK P c1 N d1) (h2 : CodeOK P c2 N d2) : CodeOK P (.cond x c1 c2) N (condD P x d1 d2) := by
  have split : ∀ {cx : Ctx} {e : NT D AV} {m : M} {y : Ex} {e' : NT D AV} {m' : M}, (condD P x d1 d2).f cx e m = .ok y e' m' → ∃ t : Bool, (evO P x).f e = .c (.bool t) ∧ ((if t then d1 else d2).f cx e m) = .ok y e' m' := fun {cx e m y e' m'} h => by
    have h : condK ((evO P x).f e) (d1.f cx e m) (d2.f cx e m) = .ok y e' m' := h
    unfold condK at h
    split at h
    · rename_i t ht
      refine ⟨t, ht, ?_⟩
      cases t <;> exact h
    · cases h
  refine ⟨fun cx e m x e' m' hc hd => ?_, fun cx e m y e' m' hc hd B0 A ρ a w hw hin hr he hf hdr F hF n => ?_⟩
  · obtain ⟨t, _, h⟩ := split hd
    cases t
    · exact h2.mono _ _ _ _ _ _ hc h
    · exact h1.mono _ _ _ _ _ _ hc h
  · obtain ⟨t, ht, h⟩ := split hd
    have hx := he.eval hr.glob x
    rw [ht] at hx
    have hx : a.eval x = .bool t := hx
    refine wpIn_cond hx ?_
    cases t
    · exact h2.wp cx e m y e' m' hc h B0 A ρ a w hw hin hr he hf hdr F hF n
    · exact h1.wp cx e m y e' m' hc h B0 A ρ a w hw hin hr he hf hdr F hF n

theorem block_ok {id : Nat} {c : Code} {N D : Nat} {d : Dn D} (h : CodeOK P c N d) : CodeOK P (.block id c) N (blockD id d) := by
  have same : ∀ {x1 : Ex} {e1 : NT D AV} {m1 : M} {x : Ex} {e' : NT D AV} {m' : M}, blockX id x1 e1 m1 = .ok x e' m' → e' = e1 ∧ m' = m1 ∧ ∀ (Q : Exit → Act → World → Prop) (a : Act) (w : World), Q (exOf x) a w → Exit.inBlock id Q (exOf x1) a w := fun {x1 e1 m1 x e' m'} h => by
    unfold blockX at h
    split at h
    · cases h; exact ⟨rfl, rfl, fun Q a w hq => hq⟩
    · rename_i i
      rw [iff_eq] at h
      split at h
      · rename_i hi
        have hi := Nat.eq_of_beq_eq_true hi
        cases h
        exact ⟨rfl, rfl, fun Q a w hq => by simp only [exOf, Exit.inBlock, hi, if_true]; exact hq⟩
      · rename_i hi
        have hi : i ≠ id := fun e => hi (by rw [e]; exact Nat.beq_refl id)
        cases h
        exact ⟨rfl, rfl, fun Q a w hq => by simp only [exOf, Exit.inBlock, hi, if_false]; exact hq⟩
    · cases h; exact ⟨rfl, rfl, fun Q a w hq => hq⟩
    · cases h; exact ⟨rfl, rfl, fun Q a w hq => hq⟩
  refine ⟨fun cx e m x e' m' hc hd => ?_, fun cx e m x e' m' hc hd B0 A ρ a w hw hin hr he hf hdr F hF n => ?_⟩
  · obtain ⟨x1, e1, m1, ha, hb⟩ := onEx_ok hd
    obtain ⟨rfl, rfl, _⟩ := same hb
    exact h.mono _ _ _ _ _ _ hc ha
  · obtain ⟨x1, e1, m1, ha, hb⟩ := onEx_ok hd
    obtain ⟨rfl, rfl, hs⟩ := same hb
    exact wpIn_block (h.on hc ha hw hin hr he hf hdr hF n fun a1 w1 ρ1 g1 => hs _ _ _ ⟨ρ1, rfl, g1⟩)

def loopG {D : Nat} (a : Dn D) (c : Ctx) (k : Nat) : NT D AV → M → R D :=
  Nat.rec (motive := fun _ => NT D AV → M → R D) (fun _ _ => .fail [180]) (fun _ ih e m => onEx (a.f c e m) .fail (thenX ih)) k

theorem loop_ok {c : Code} {N D : Nat} {d : Dn D} (h : CodeOK P c N d) : CodeOK P (.loop c) N (loopD d) := by
  have mono : ∀ (cx : Ctx), LowOK P cx.low → ∀ (k : Nat) (e : NT D AV) (m : M) (x : Ex) (e' : NT D AV) (m' : M), loopG d cx k e m = .ok x e' m' → Mono P m m' := by
    intro cx hc k
    induction k with
    | zero => intro e m x e' m' h; cases h
    | succ k ih =>
      intro e m x e' m' hd
      obtain ⟨x1, e1, m1, ha, hb⟩ := onEx_ok (k := thenX (loopG d cx k)) hd
      have mo1 := h.mono cx e m x1 e1 m1 hc ha
      rcases thenX_ok hb with ⟨_, hb⟩ | ⟨_, _, _, rfl⟩
      · exact mo1.trans (ih _ _ _ _ _ hb)
      · exact mo1
  refine ⟨fun cx e m x e' m' hc hd => mono cx hc cx.lf e m x e' m' hd, fun cx e m x e' m' hc hd B0 A ρ a w hw hin hr he hf hdr F hF n => wpIn_loop_rounds cx.lf ?_⟩
  have key : ∀ (k : Nat) (e : NT D AV) (m : M) (x : Ex) (e' : NT D AV) (m' : M), loopG d cx k e m = .ok x e' m' → ∀ (ρ : Rho) (a : Act) (w : World), WF P m → In A m m' → Rel P B0 A ρ m.H w → ENV ρ N D e a.tmps → Fresh ρ m m' → DR ρ m.dfs a.defers → FOK ρ cx.rnd F →
      ∀ (Q : Exit → Act → World → Prop), (∀ a' w' ρ', Gone P B0 A N D ρ m w e' m' a' w' ρ' → Q (exOf x) a' w') → Code.roundsIn F n P c Q k a w := by
    intro k
    induction k with
    | zero => intro e m x e' m' h; cases h
    | succ k ih =>
      intro e m x e' m' hd ρ a w hw hin hr he hf hdr hF Q hQ
      obtain ⟨x1, e1, m1, ha, hb⟩ := onEx_ok (k := thenX (loopG d cx k)) hd
      have mo1 := h.mono cx e m x1 e1 m1 hc ha
      rw [roundsIn_succ]
      rcases thenX_ok hb with ⟨rfl, hb⟩ | ⟨hx, rfl, rfl, rfl⟩
      · have mo2 := mono cx hc k _ _ _ _ _ hb
        refine h.on hc ha hw (hin.first mo2) hr he (hf.first mo2) hdr hF n fun a1 w1 ρ1 g1 => ?_
        exact ih e1 m1 x e' m' hb ρ1 a1 w1 g1.post.wf (hin.second mo1) g1.post.rel g1.env (hf.second mo1 g1.post) g1.dfs (hF.mono g1.post.ext) Q fun a2 w2 ρ2 g2 => hQ a2 w2 ρ2 (g2.behind g1.post mo2 hf)
      · exact h.on hc ha hw hin hr he hf hdr hF n fun a1 w1 ρ1 g1 => then_other hx (hQ a1 w1 ρ1 g1)
  exact key cx.lf e m x e' m' hd ρ a w hw hin hr he hf hdr hF _ fun a' w' ρ' g => ⟨ρ', rfl, g⟩

/-- Labels, and what is behind them. -/
def LabOK (P : Program) (c : Code) (N : Nat) {D : Nat} (lab : Nat → Option (Dn D)) : Prop := ∀ l, match lab l, findLabel c l with
  | some d, some rest => CodeOK P rest N d
  | none, none => True
  | _, _ => False

def scopeG {D : Nat} (lab : Nat → Option (Dn D)) (c : Ctx) (k : Nat) : Dn D → NT D AV → M → R D :=
  Nat.rec (motive := fun _ => Dn D → NT D AV → M → R D) (fun _ _ _ => .fail [181]) (fun _ ih a e m => onEx (a.f c e m) .fail (scopeX lab ih)) k

theorem scopeX_ok {D : Nat} {lab : Nat → Option (Dn D)} {k : Dn D → NT D AV → M → R D} {x1 x : Ex} {e1 e' : NT D AV} {m1 : M} (h : scopeX lab k x1 e1 m1 = .ok x e' m') :
    (∃ l d, x1 = .goto l ∧ lab l = some d ∧ k d e1 m1 = .ok x e' m') ∨ ((∀ l, x1 = .goto l → lab l = none) ∧ x = x1 ∧ e' = e1 ∧ m' = m1) := by
  unfold scopeX at h
  split at h
  · rename_i l
    split at h
    · rename_i d hd; exact .inl ⟨l, d, rfl, hd, h⟩
    · rename_i hd; cases h; exact .inr ⟨fun l' hl => by cases hl; exact hd, rfl, rfl, rfl⟩
  all_goals (cases h; exact .inr ⟨fun l' hl => (by cases hl), rfl, rfl, rfl⟩)

theorem scope_ok {c : Code} {N D : Nat} {d : Dn D} {lab : Nat → Option (Dn D)} (h : CodeOK P c N d) (hl : LabOK P c N lab) : CodeOK P (.scope c) N (scopeD d lab) := by
  have lok : ∀ {l : Nat} {d : Dn D}, lab l = some d → ∃ rest, findLabel c l = some rest ∧ CodeOK P rest N d := fun {l d} hd => by
    have := hl l
    rw [hd] at this
    cases hf : findLabel c l with
    | none => rw [hf] at this; exact this.elim
    | some rest => rw [hf] at this; exact ⟨rest, rfl, this⟩
  have lno : ∀ {l : Nat}, lab l = none → findLabel c l = none := fun {l} hd => by
    have := hl l
    rw [hd] at this
    cases hf : findLabel c l with
    | none => rfl
    | some rest => rw [hf] at this; exact this.elim
  have mono : ∀ (cx : Ctx), LowOK P cx.low → ∀ (k : Nat) (x0 : Code) (d : Dn D), CodeOK P x0 N d → ∀ (e : NT D AV) (m : M) (x : Ex) (e' : NT D AV) (m' : M), scopeG lab cx k d e m = .ok x e' m' → Mono P m m' := by
    intro cx hc k
    induction k with
    | zero => intro x0 d h0 e m x e' m' h; cases h
    | succ k ih =>
      intro x0 d h0 e m x e' m' hd
      obtain ⟨x1, e1, m1, ha, hb⟩ := onEx_ok (k := scopeX lab (scopeG lab cx k)) hd
      have mo1 := h0.mono cx e m x1 e1 m1 hc ha
      rcases scopeX_ok hb with ⟨l, d', _, hld, hb⟩ | ⟨_, _, _, rfl⟩
      · obtain ⟨rest, _, hrest⟩ := lok hld
        exact mo1.trans (ih rest d' hrest _ _ _ _ _ hb)
      · exact mo1
  refine ⟨fun cx e m x e' m' hc hd => mono cx hc cx.lf c d h e m x e' m' hd, fun cx e m x e' m' hc hd B0 A ρ a w hw hin hr he hf hdr F hF n => wpIn_scope cx.lf ?_⟩
  have key : ∀ (k : Nat) (x0 : Code) (d : Dn D), CodeOK P x0 N d → ∀ (e : NT D AV) (m : M) (x : Ex) (e' : NT D AV) (m' : M), scopeG lab cx k d e m = .ok x e' m' → ∀ (ρ : Rho) (a : Act) (w : World), WF P m → In A m m' → Rel P B0 A ρ m.H w → ENV ρ N D e a.tmps → Fresh ρ m m' → DR ρ m.dfs a.defers → FOK ρ cx.rnd F →
      ∀ (Q : Exit → Act → World → Prop), (∀ a' w' ρ', Gone P B0 A N D ρ m w e' m' a' w' ρ' → Q (exOf x) a' w') → scopeRounds F n P c Q k x0 a w := by
    intro k
    induction k with
    | zero => intro x0 d h0 e m x e' m' h; cases h
    | succ k ih =>
      intro x0 d h0 e m x e' m' hd ρ a w hw hin hr he hf hdr hF Q hQ
      obtain ⟨x1, e1, m1, ha, hb⟩ := onEx_ok (k := scopeX lab (scopeG lab cx k)) hd
      have mo1 := h0.mono cx e m x1 e1 m1 hc ha
      show x0.wpIn F n P _ a w
      rcases scopeX_ok hb with ⟨l, d', rfl, hld, hb⟩ | ⟨hno, rfl, rfl, rfl⟩
      · obtain ⟨rest, hfl, hrest⟩ := lok hld
        have mo2 := mono cx hc k rest d' hrest _ _ _ _ _ hb
        refine h0.on hc ha hw (hin.first mo2) hr he (hf.first mo2) hdr hF n fun a1 w1 ρ1 g1 => ?_
        simp only [exOf, hfl]
        exact ih rest d' hrest e1 m1 x e' m' hb ρ1 a1 w1 g1.post.wf (hin.second mo1) g1.post.rel g1.env (hf.second mo1 g1.post) g1.dfs (hF.mono g1.post.ext) Q fun a2 w2 ρ2 g2 => hQ a2 w2 ρ2 (g2.behind g1.post mo2 hf)
      · refine h0.on hc ha hw hin hr he hf hdr hF n fun a1 w1 ρ1 g1 => ?_
        have := hQ a1 w1 ρ1 g1
        cases x with
        | goto l => simp only [exOf, lno (hno l rfl)]; exact this
        | _ => exact this
  exact key cx.lf c d h e m x e' m' hd ρ a w hw hin hr he hf hdr hF _ fun a' w' ρ' g => ⟨ρ', rfl, g⟩

theorem noLab_ok {c : Code} {N D : Nat} (h : ∀ l, findLabel c l = none) : LabOK P c N (noLab (D := D)) := fun l => by
  rw [h l]
  exact trivial

theorem seqLab_ok {c1 c2 : Code} {N D : Nat} {d2 : Dn D} {l1 l2 : Nat → Option (Dn D)} (h1 : LabOK P c1 N l1) (h2 : LabOK P c2 N l2) (hd : CodeOK P c2 N d2) : LabOK P (.seq c1 c2) N (fun l => match l1 l with
    | some d => some (seqD d d2)
    | none => l2 l) := fun l => by
  have a1 := h1 l
  have a2 := h2 l
  simp only [findLabel]
  cases e1 : l1 l with
  | some d =>
    rw [e1] at a1
    cases f1 : findLabel c1 l with
    | none => rw [f1] at a1; exact a1.elim
    | some rest => rw [f1] at a1; exact seq_ok a1 hd
  | none =>
    rw [e1] at a1
    cases f1 : findLabel c1 l with
    | some rest => rw [f1] at a1; exact a1.elim
    | none => exact a2

theorem labelLab_ok {l N D : Nat} : LabOK P (.label l) N (fun l' => if l == l' then some (⟨fun _ e m => .ok .norm e m⟩ : Dn D) else none) := fun l' => by
  simp only [findLabel]
  cases h : (l == l') with
  | true => exact skip_ok
  | false => exact trivial

end Go.CE
end WR

/- A range over a function; its rounds. No program is named. -/
noncomputable section WS
namespace Go.CE
open Go

variable {P : Program} {B0 : Nat} {A W W' : Nat → Prop} {ρ ρ' ρ'' : Rho} {m m' m'' : M} {w w' w'' : World}

theorem jmpX_wp (pd : Option Jmp) {F : Fence} {n : Nat} {Q : Exit → Act → World → Prop} {a : Act} (h : Q (exOf (jmpX pd)) a w) : match pd.map jmpCode with
    | none => Q .normal a w
    | some c => c.wpIn F n P Q a w := by
  cases pd with
  | none => exact h
  | some j => cases j with
    | exit id => exact wpIn_exit h
    | goto l => exact wpIn_goto h
    | ret => exact wpIn_ret h

/-- Behind the function that was ranged over: what is there. -/
theorem endLoopOb_ok {D : Nat} {id : Nat} {e e' : NT D AV} {ob : Ob} {x : Ex} (h : endLoopOb P id e ob m = .ok x e' m') :
    ∃ st pd N D' e2 ps as bd dfr, ob = .lp st pd N D' e2 ps as bd dfr ∧ st ≠ .busy ∧ glb P ≤ id ∧ id < m.nx ∧ x = jmpX pd ∧ e' = e ∧
      m' = ⟨updN hd id m.H (.lp .exhausted pd N D' e2 ps as bd dfr), m.nx, min m.rm id, min m.wm id, m.dfs⟩ := by
  unfold endLoopOb at h
  split at h
  · rename_i st pd N D' e2 ps as bd dfr
    rw [iff_eq] at h
    split at h
    · rename_i hb
      rcases turn_ok' h with h | ⟨hg, hlt, h⟩
      · cases h
      · cases h
        refine ⟨st, pd, N, D', e2, ps, as, bd, dfr, rfl, fun hs => ?_, hg, hlt, rfl, rfl, rfl⟩
        rw [hs] at hb; cases hb
    · cases h
  · cases h

/-- The rest of the statement, from where the loop's record is made. -/
theorem rangeNew_split {N D : Nat} {f : Operand} {ps : Array Tmp} {as bd : Code} {c : Low} {e e' : NT D AV} {dfr : Nat} {x : Ex} (h : rangeNew P N f ps as bd c e dfr m = .ok x e' m') :
    m.nx < capN hd ∧ ∃ g a b v m3 rm, (evO P f).f e = .c (.ref (.fn g a b)) ∧ hasBody P g = true ∧
      callK c g (ptrArgs a (.c (.ref (.yld m.nx)) :: ptrArgs b [])) ⟨updN hd m.nx m.H (.lp .ready none N D e ps.toList as bd dfr), m.nx + 1, m.rm, m.wm, m.dfs⟩ = .ok v m3 ∧ rm ≤ m3.rm ∧
      endLoopOb P m.nx e (obj m3.H m.nx) ⟨m3.H, m3.nx, rm, m3.wm, m3.dfs⟩ = .ok x e' m' := by
  rcases fresh_ok h with h | ⟨hnx, h⟩
  · cases h
  · refine ⟨hnx, ?_⟩
    unfold rangeGo at h
    split at h
    · rename_i g a b hfe
      rw [iff_eq] at h
      split at h
      · rename_i hb
        obtain ⟨v, m3, h1, h2⟩ := onOk_ok h
        obtain ⟨rm, hrm, _, h2⟩ := look_ok h2
        exact ⟨g, a, b, v, m3, rm, hfe, hb, h1, hrm, h2⟩
      · cases h
    · cases h

theorem callK_mono {c : Low} (hc : LowOK P c) {f : Nat} {args : List AV} {v : AV} (h : callK c f args m = .ok v m') : Mono P m m' ∧ m'.dfs = m.dfs := by
  obtain ⟨m1, h1, rfl⟩ := callK_ok h
  have := hc.callM _ _ _ _ _ h1
  exact ⟨Mono.dfs' (this.dfs _), rfl⟩

theorem rangeNew_mono {N D : Nat} {f : Operand} {ps : Array Tmp} {as bd : Code} {c : Low} (hc : LowOK P c) {e e' : NT D AV} {dfr : Nat} {x : Ex} (h : rangeNew P N f ps as bd c e dfr m = .ok x e' m') : Mono P m m' ∧ m'.dfs = m.dfs ∧ e' = e := by
  obtain ⟨hnx, g, a, b, v, m3, rm, _, _, h1, hrm, h2⟩ := rangeNew_split h
  obtain ⟨mo, hd⟩ := callK_mono hc h1
  obtain ⟨st, pd, N', D', e2, ps', as', bd', dfr', _, _, hg', hlt, _, rfl, rfl⟩ := endLoopOb_ok h2
  exact ⟨(Mono.new m hnx _ m.dfs).trans (mo.trans (Mono.upd' m3 hg' hlt _ _ hrm)), hd, rfl⟩

/-- The call, and what is behind it. -/
theorem rangeNew_ok {N D : Nat} {f : Operand} {ps : Array Tmp} {as bd : Code} {c : Low} (hc : LowOK P c) {e e' : NT D AV} {dfr : Nat} {sd : Seg} {x : Ex} (h : rangeNew P N f ps as bd c e dfr m = .ok x e' m')
    (hw : WF P m) (hin : In A m m') (hr : Rel P B0 A ρ m.H w) (hf : Fresh ρ m m') (hsd : ρ dfr = some sd) {a : Act} (he : ENV ρ N D e a.tmps) {F : Fence} (hF : Wide F) (n : Nat) (fn : FuncId) (mark : List Deferred) {Q : Exit → Act → World → Prop}
    (hQ : ∀ w' ρ', Post P B0 A (fun id => m'.wm ≤ id) ρ m w ρ' m' w' → Q (exOf x) { a with defers := mark ++ a.defers } w') :
    ∃ (d : Deferred) (w₁' : World) (g : FuncId) (args : Array Value) (w₂ : World),
      (resolve a.eval (rangeCall f w.heap.size) 0).run P (w.alloc (.loop { state := .ready, pending := none, fn, tmps := a.tmps, params := ps, assign := as, body := bd, defers := sd.blk })) = .ok d w₁' ∧
      (∀ f', Target.leads P w₁' d.target d.args = some f' → F.fn f') ∧ (invoke d.target d.args).run P w₁' = .ok (.enter g args) w₂ ∧ (F.depth.isSome = true → 1 ≤ n) ∧
      CallsIn F (n - 1) P g args w₂ (rangePost F n P w.heap.size Q { a with defers := mark ++ a.defers }) := by
  obtain ⟨hnx, g, fa, fb, v, m3, rm, hfe, hb, h1, hrm, h2⟩ := rangeNew_split h
  obtain ⟨mo3, hd3⟩ := callK_mono hc h1
  obtain ⟨st, pd, N', D', e2, ps', as', bd', dfr', hob, hst, hg, _, rfl, rfl, rfl⟩ := endLoopOb_ok h2
  have hρ : ρ m.nx = none := hf m.nx (Nat.le_refl _) (by show m.nx < m3.nx; exact mo3.nx)
  generalize hlo : (Obj.loop { state := .ready, pending := none, fn, tmps := a.tmps, params := ps, assign := as, body := bd, defers := sd.blk }) = lo
  have hor : OR (ins ρ m.nx ⟨w.heap.size, 0, 0⟩) ⟨w.heap.size, 0, 0⟩ (.lp .ready none N D e' ps.toList as bd dfr) (some lo) :=
    ⟨fn, a.tmps, sd, by rw [← hlo]; simp, ins_ext hρ _ _ hsd, he.mono (ins_ext hρ)⟩
  have hp2 := Post.alloc (W := fun id => min m3.wm m.nx ≤ id) hw hr hnx hρ lo _ 0 hor m.rm m.wm m.dfs
  have hfv := he.eval hr.glob f
  rw [hfe] at hfv
  obtain ⟨pa, pb, hfv, hpa, hpb⟩ := hfv
  obtain ⟨_, _, _, _, hcf⟩ := hasBody_ok hb
  have hx := ins_ext hρ (s := ⟨w.heap.size, 0, 0⟩)
  have hyld : AR (ins ρ m.nx ⟨w.heap.size, 0, 0⟩) (.c (.ref (.yld m.nx))) (.func (.yield w.heap.size) #[] #[]) := ⟨_, ins_self _ _, rfl⟩
  have hargs : All2 (AR (ins ρ m.nx ⟨w.heap.size, 0, 0⟩)) (ptrArgs fa (.c (.ref (.yld m.nx)) :: ptrArgs fb [])) (pa.toList ++ (Value.func (.yield w.heap.size) #[] #[] :: (pb.toList ++ []))) :=
    ptrArgs_ok (All2.mono (fun _ _ => PR.mono hx) hpa) ⟨hyld, ptrArgs_ok (k := []) (ks := []) (All2.mono (fun _ _ => PR.mono hx) hpb) trivial⟩
  obtain ⟨m1, hcall, hm3⟩ := callK_ok h1
  have mo1 := hc.callM _ _ _ _ _ hcall
  subst hm3
  refine ⟨{ target := .fn (.func g) pb, args := pa ++ #[Value.func (.yield w.heap.size) #[] #[]] }, w.alloc lo, g, (pa.toList ++ (Value.func (.yield w.heap.size) #[] #[] :: (pb.toList ++ []))).toArray, w.alloc lo, ?_, fun f' _ => hF.fn f', ?_, fun h => (by rw [hF.depth] at h; cases h), ?_⟩
  · simp only [resolve, hfv, Deferred.ofValue]
    simp [Sem.run_pure]
    rfl
  · simp only [invoke, hcf]
    congr 2
    apply Array.ext'
    simp
  · have hin2 : In A ⟨updN hd m.nx m.H (.lp .ready none N D e' ps.toList as bd dfr), m.nx + 1, m.rm, m.wm, []⟩ m1 := fun id hid => hin id (hid.imp (fun h => Nat.le_trans (Nat.le_trans (Nat.min_le_left _ _) hrm) h) fun h => Nat.le_trans (Nat.le_succ _) h)
    have hf2 : Fresh (ins ρ m.nx ⟨w.heap.size, 0, 0⟩) ⟨updN hd m.nx m.H (.lp .ready none N D e' ps.toList as bd dfr), m.nx + 1, m.rm, m.wm, []⟩ m1 := fun id hid1 hid2 => by
      have hid1 : m.nx + 1 ≤ id := hid1
      rw [ins_other (by omega)]
      exact hf id (by omega) hid2
    refine hF.calls (CallsIn.mono (hc.call _ _ _ _ _ hcall rfl B0 A _ _ _ ⟨hp2.wf.gnx, hp2.wf.cap, hp2.wf.dead⟩ hin2 hp2.rel hf2 hargs (n - 1)) ?_)
    rintro ed w3 ⟨y, ρ3, rfl, hran⟩
    -- behind the call
    have hA : A m.nx := hin m.nx (.inr (Nat.le_refl _))
    have hs3 : ρ3 m.nx = some ⟨w.heap.size, 0, 0⟩ := hran.post.ext _ _ (ins_self _ _)
    have hob3 : obj m1.H m.nx = .lp st pd N' D' e2 ps' as' bd' dfr' := hob
    have hat := hran.post.rel.rows _ _ hs3 (.inl hA)
    rw [hob3] at hat
    obtain ⟨fn', tmps', sd', hb3, hsd', henv'⟩ := hat
    have hb3' : w3.heap[w.heap.size]? = some (.loop { state := st, pending := pd.map jmpCode, fn := fn', tmps := tmps', params := ps'.toArray, assign := as', body := bd', defers := sd'.blk }) := hb3
    have hend := run_endLoop (P := P) hb3' hst
    refine ⟨pd.map jmpCode, _, hend, jmpX_wp pd ?_⟩
    have hor4 : OR ρ3 ⟨w.heap.size, 0, 0⟩ (.lp .exhausted pd N' D' e2 ps' as' bd' dfr') (some (.loop { state := .exhausted, pending := pd.map jmpCode, fn := fn', tmps := tmps', params := ps'.toArray, assign := as', body := bd', defers := sd'.blk })) := ⟨fn', tmps', sd', rfl, hsd', henv'⟩
    have hp4 := (Post.setOb hran.post.wf hran.post.rel hA hs3 hg (fun h => by rw [hob3] at h; cases h) hb3 _ _ hor4 (min rm m.nx) (min m1.wm m.nx) m.dfs).more (W' := fun id => min m1.wm m.nx ≤ id) (fun j hj => by rw [hj]; exact Nat.min_le_right _ _)
    have hfall : Fresh ρ m m1 := fun id h1 h2 => hf id h1 h2
    have hp23 := (hp2.marks (n := ⟨m.H, m.nx, m.rm, m.wm, m.dfs⟩) (n' := ⟨updN hd m.nx m.H (.lp .ready none N D e' ps.toList as bd dfr), m.nx + 1, m.rm, m.wm, []⟩) rfl rfl rfl rfl).trans (hran.post.more (W' := fun id => min m1.wm m.nx ≤ id) fun j hj => Nat.le_trans (Nat.min_le_left _ _) hj) (m'' := m1) hfall
    exact hQ _ ρ3 (hp23.trans hp4 (m'' := ⟨updN hd m.nx m1.H (.lp .exhausted pd N' D' e2 ps' as' bd' dfr'), m1.nx, min rm m.nx, min m1.wm m.nx, m.dfs⟩) (fun id h1 h2 => hf id h1 h2))

theorem range_ok {N D : Nat} {f : Operand} {ps : Array Tmp} {as bd : Code} : CodeOK P (.rangeFunc f ps as bd) N (rangeD P N f ps as bd (D := D)) := by
  refine ⟨fun cx e m x e' m' hc hd => ?_, fun cx e m x e' m' hc hd B0 A ρ a w hw hin hr he hf hdr F hF n => ?_⟩
  · obtain ⟨low, lf, rnd⟩ := cx
    cases rnd with
    | none =>
      have hd : fresh .dfr m (.fail [188]) (fun dfr m => rangeNew P N f ps as bd low e dfr (pushDfs dfr m)) = R.ok x e' m' := hd
      rcases fresh_ok hd with hd | ⟨hnx, hd⟩
      · cases hd
      · have hd : rangeNew P N f ps as bd low e m.nx ⟨updN CE.hd m.nx m.H .dfr, m.nx + 1, m.rm, m.wm, m.nx :: m.dfs⟩ = R.ok x e' m' := hd
        obtain ⟨mo, _, _⟩ := rangeNew_mono hc hd
        exact (Mono.new m hnx _ _).trans mo
    | some r =>
      have hd : look P r m (rangeIn P N f ps as bd low e) = R.ok x e' m' := hd
      obtain ⟨rm, hrm, _, hd⟩ := look_ok hd
      unfold rangeIn at hd
      split at hd
      · obtain ⟨mo, _, _⟩ := rangeNew_mono hc hd
        exact (Mono.marks' m _ hrm).trans mo
      · cases hd
  · have hFw := hF.wide
    obtain ⟨low, lf, rnd⟩ := cx
    refine wpIn_rangeFunc fun fn hfn => ?_
    cases rnd with
    | none =>
      have hF : F = Fence.wide := hF
      have hd : fresh .dfr m (.fail [188]) (fun dfr m => rangeNew P N f ps as bd low e dfr (pushDfs dfr m)) = R.ok x e' m' := hd
      rcases fresh_ok hd with hd | ⟨hnx, hd⟩
      · cases hd
      · have hd : rangeNew P N f ps as bd low e m.nx ⟨updN CE.hd m.nx m.H .dfr, m.nx + 1, m.rm, m.wm, m.nx :: m.dfs⟩ = R.ok x e' m' := hd
        obtain ⟨mo, hdfs, rfl⟩ := rangeNew_mono hc hd
        have hρ : ρ m.nx = none := hf m.nx (Nat.le_refl _) mo.nx
        have hp1 := Post.alloc (W := fun id => m'.wm ≤ id) hw hr hnx hρ (.deferred (some [])) .dfr 0 rfl m.rm m.wm (m.nx :: m.dfs)
        have mo1 : Mono P m ⟨updN CE.hd m.nx m.H .dfr, m.nx + 1, m.rm, m.wm, m.nx :: m.dfs⟩ := Mono.new m hnx _ _
        obtain ⟨d, w1', g, args, w2, h1, h2, h3, h4, h5⟩ := rangeNew_ok hc hd hp1.wf (hin.second mo1) hp1.rel (hf.second mo1 hp1) (ins_self _ _) (he.mono (ins_ext hρ)) hFw n fn [{ target := .collected w.heap.size, args := #[] }] (Q := goneQ P B0 A N ρ m w x e' m') fun w' ρ' hp => by
          refine ⟨ρ', rfl, (he.mono (ins_ext hρ)).mono hp.ext, ?_, hp1.trans hp hf⟩
          rw [hdfs]
          exact ⟨⟨_, hp.ext _ _ (ins_self _ _), rfl⟩, (hdr.mono (ins_ext hρ)).mono hp.ext⟩
        rw [World.size_alloc] at h1 h5
        refine ⟨w.heap.size + 1, [{ target := .collected w.heap.size, args := #[] }], _, d, w1', g, args, w2, ?_, h1, h2, h3, h4, h5⟩
        rw [hF]
        exact run_enterLoop_outer fn a.tmps ps as bd
    | some r =>
      obtain ⟨s, hs, hF⟩ := hF
      have hd : look P r m (rangeIn P N f ps as bd low e) = R.ok x e' m' := hd
      obtain ⟨rm, hrm, hid, hd⟩ := look_ok hd
      unfold rangeIn at hd
      split at hd
      · rename_i st pd N' D' e2 ps2 as2 bd2 dfr hob
        obtain ⟨mo, hdfs, rfl⟩ := rangeNew_mono hc hd
        have hat := hr.rows _ _ hs (hid.imp (fun h => hin r (.inl (Nat.le_trans mo.rm h))) fun h => h)
        rw [hob] at hat
        obtain ⟨fn', tmps', sd, hb, hsd, henv⟩ := hat
        obtain ⟨d, w1', g, args, w2, h1, h2, h3, h4, h5⟩ := rangeNew_ok hc hd ⟨hw.gnx, hw.cap, hw.dead⟩ (fun id hid => hin id hid) hr (fun id h1 h2 => hf id h1 h2) hsd he hFw n fn [] (Q := goneQ P B0 A N ρ m w x e' m') fun w' ρ' hp => by
          refine ⟨ρ', rfl, he.mono hp.ext, ?_, hp.marks rfl rfl rfl rfl⟩
          rw [hdfs]
          exact hdr.mono hp.ext
        refine ⟨w.heap.size, [], _, d, w1', g, args, w2, ?_, h1, h2, h3, h4, h5⟩
        rw [hF]
        exact run_enterLoop_inner hb fn a.tmps ps as bd
      · cases hd

end Go.CE
end WS

/- Rounds, functions, as deep as calls go. No program is named. -/
noncomputable section WT
namespace Go.CE
open Go

variable {P : Program} {B0 : Nat} {A W W' : Nat → Prop} {ρ ρ' ρ'' : Rho} {m m' m'' : M} {w w' w'' : World}

theorem onExO_ok {D : Nat} {r : R D} {k : Ex → NT D AV → M → RO} {v : AV} (h : onEx r .fail k = .ok v m') : ∃ x1 e1 m1, r = .ok x1 e1 m1 ∧ k x1 e1 m1 = .ok v m' := by
  cases r with
  | fail w => cases h
  | ok x1 e1 m1 => exact ⟨x1, e1, m1, rfl, h⟩

/-! ### Rounds -/

theorem setPs_ok {N D : Nat} {bad : List Nat} : ∀ (ps : List Nat) (args : List AV) (e : NT D AV) (k : NT D AV → RO) {v : AV}, setPs N D (RO.fail bad) ps args e k = .ok v m' →
    ∃ e1, k e1 = .ok v m' ∧ ps.length = args.length ∧ ∀ (ρ : Rho) (vals : List Value) (tmps : Array Value), ENV ρ N D e tmps → All2 (AR ρ) args vals → ENV ρ N D e1 ((ps.zip vals).foldl (fun t p => t.setIfInBounds p.1 p.2) tmps)
  | [], [], e, k, v, h => ⟨e, h, rfl, fun ρ vals tmps he hall => by
      cases vals with
      | nil => exact he
      | cons _ _ => exact hall.elim⟩
  | p :: ps, x :: args, e, k, v, h => by
    have h : (putD N (some p)).f e x (fun e => setPs N D (RO.fail bad) ps args e k) = .ok v m' := h
    rw [putD_eq] at h
    obtain ⟨e1, h1, h2, h3⟩ := setPs_ok ps args _ k h
    refine ⟨e1, h1, by simp [h2], fun ρ vals tmps he hall => ?_⟩
    cases vals with
    | nil => exact hall.elim
    | cons y vals =>
      have := ENV.putE (a := { tmps := tmps, defers := [] }) he hall.1 (some p)
      exact h3 ρ vals _ this hall.2
  | [], _ :: _, e, k, v, h => by cases h
  | _ :: _, [], e, k, v, h => by cases h

def jumpOf : Ex → Option Jmp
  | .norm => none
  | .exit i => some (.exit i)
  | .goto l => some (.goto l)
  | .ret => some .ret

theorem roundPost_of {l : Nat} {R : Ending → World → Prop} (x : Ex) {a : Act} {v : Value} (h : (Instr.endRound l ((jumpOf x).map jmpCode)).run P w = .ok v w') (hR : R (.returned v) w') : roundPost P l R (exOf x) a w := by
  cases x <;> exact ⟨v, w', h, hR⟩

theorem endRoundOb_ok {id : Nat} {x : Ex} {ob : Ob} {v : AV} (h : endRoundOb P id x ob m = .ok v m') :
    ∃ st pd N D e ps as bd dfr, ob = .lp st pd N D e ps as bd dfr ∧ glb P ≤ id ∧ id < m.nx ∧ v = .c (.bool (jumpOf x).isNone) ∧
      m' = ⟨updN hd id m.H (.lp (if (jumpOf x).isNone then .ready else .done) (jumpOf x) N D e ps as bd dfr), m.nx, min m.rm id, min m.wm id, m.dfs⟩ := by
  unfold endRoundOb at h
  split at h
  · rename_i st pd N D e ps as bd dfr
    refine ⟨st, pd, N, D, e, ps, as, bd, dfr, rfl, ?_⟩
    cases x with
    | norm =>
      rcases turn_ok' h with h | ⟨hg, hlt, h⟩
      · cases h
      · have h : RO.ok (.c (.bool true)) _ = .ok v m' := h
        cases h; exact ⟨hg, hlt, rfl, rfl⟩
    | ret =>
      rcases turn_ok' h with h | ⟨hg, hlt, h⟩
      · cases h
      · have h : RO.ok (.c (.bool false)) _ = .ok v m' := h
        cases h; exact ⟨hg, hlt, rfl, rfl⟩
    | exit i =>
      rcases turn_ok' h with h | ⟨hg, hlt, h⟩
      · cases h
      · have h : RO.ok (.c (.bool false)) _ = .ok v m' := h
        cases h; exact ⟨hg, hlt, rfl, rfl⟩
    | goto i =>
      rcases turn_ok' h with h | ⟨hg, hlt, h⟩
      · cases h
      · have h : RO.ok (.c (.bool false)) _ = .ok v m' := h
        cases h; exact ⟨hg, hlt, rfl, rfl⟩
  · cases h

/-- The pieces of a round. -/
theorem roundOb_split {lf : Nat} {low : Low} {id : Nat} {args : List AV} {ob : Ob} {v : AV} (h : roundOb P lf low id args ob m = .ok v m') :
    ∃ st pd N D e ps as bd dfr e0 e1 m1 rm1 st1 pd1 N1 D1 e1' ps1 as1 bd1 dfr1 x2 e2 m3 rm3, ob = .lp st pd N D e ps as bd dfr ∧ ps.length = args.length ∧
      (∀ (ρ : Rho) (vals : List Value) (tmps : Array Value), ENV ρ N D e tmps → All2 (AR ρ) args vals → ENV ρ N D e0 ((ps.zip vals).foldl (fun t p => t.setIfInBounds p.1 p.2) tmps)) ∧
      (den P N as).run.f ⟨low, lf, some id⟩ e0 m = .ok .norm e1 m1 ∧ rm1 ≤ m1.rm ∧ obj m1.H id = .lp st1 pd1 N1 D1 e1' ps1 as1 bd1 dfr1 ∧ st1 = .ready ∧ glb P ≤ id ∧ id < m1.nx ∧
      (den P N bd).run.f ⟨low, lf, some id⟩ e1 ⟨updN hd id m1.H (.lp .busy pd1 N1 D1 e1' ps1 as1 bd1 dfr1), m1.nx, min rm1 id, min m1.wm id, m1.dfs⟩ = .ok x2 e2 m3 ∧ rm3 ≤ m3.rm ∧
      endRoundOb P id x2 (obj m3.H id) ⟨m3.H, m3.nx, rm3, m3.wm, m3.dfs⟩ = .ok v m' := by
  unfold roundOb at h
  split at h
  · rename_i st pd N D e ps as bd dfr
    rw [iff_ble] at h
    split at h
    · obtain ⟨e0, h, hlen, henv⟩ := setPs_ok ps args e _ h
      obtain ⟨x1, e1, m1, h1, h⟩ := onExO_ok h
      unfold beginX at h
      split at h
      · obtain ⟨rm1, hrm1, _, h⟩ := look_ok h
        unfold beginOb at h
        split at h
        · rename_i st1 pd1 N1 D1 e1' ps1 as1 bd1 dfr1 hob
          rw [iff_eq] at h
          split at h
          · rename_i hready
            have hst : st1 = .ready := by cases st1 <;> first | rfl | cases hready
            rcases turn_ok' h with h | ⟨hg, hlt, h⟩
            · cases h
            · obtain ⟨x2, e2, m3, h2, h⟩ := onExO_ok h
              obtain ⟨rm3, hrm3, _, h⟩ := look_ok (k := endRoundOb P id x2) h
              exact ⟨st, pd, N, D, e, ps, as, bd, dfr, e0, e1, m1, rm1, st1, pd1, N1, D1, e1', ps1, as1, bd1, dfr1, x2, e2, m3, rm3, rfl, hlen, henv, h1, hrm1, hob, hst, hg, hlt, h2, hrm3, h⟩
          · cases h
        · cases h
      · cases h
    · cases h
  · cases h

/-- That all code is as it is worked out. -/
def DenOK (P : Program) : Prop := ∀ (N D : Nat) (c : Code), CodeOK P c N (den P N c (D := D)).run

theorem round_mono (hden : DenOK P) {lf : Nat} {low : Low} (hlow : LowOK P low) {id : Nat} {args : List AV} {ob : Ob} {v : AV} (h : roundOb P lf low id args ob m = .ok v m') : Mono P m m' := by
  obtain ⟨st, pd, N, D, e, ps, as, bd, dfr, e0, e1, m1, rm1, st1, pd1, N1, D1, e1', ps1, as1, bd1, dfr1, x2, e2, m3, rm3, rfl, hlen, henv, h1, hrm1, hob1, rfl, hg, hlt, h2, hrm3, h3⟩ := roundOb_split h
  obtain ⟨_, _, _, _, _, _, _, _, _, _, hg3, hlt3, _, rfl⟩ := endRoundOb_ok h3
  have mo1 := (hden N D as).mono _ _ _ _ _ _ hlow h1
  have mo2 := (hden N D bd).mono _ _ _ _ _ _ hlow h2
  have u1 := Mono.upd' m1 hg hlt (.lp .busy pd1 N1 D1 e1' ps1 as1 bd1 dfr1) m1.dfs hrm1
  exact mo1.trans (u1.trans (mo2.trans (Mono.upd' m3 hg3 hlt3 _ _ hrm3)))

theorem round_ok (hden : DenOK P) {lf : Nat} {low : Low} (hlow : LowOK P low) {id : Nat} {args : List AV} {v : AV} (h : look P id m (roundOb P lf low id args) = .ok v m') (hdfs : m.dfs = [])
    (hw : WF P m) (hin : In A m m') (hr : Rel P B0 A ρ m.H w) (hf : Fresh ρ m m') {vals : List Value} (hargs : All2 (AR ρ) args vals) {s : Seg} (hs : ρ id = some s) :
    ∃ f tmps as bd, (Instr.yield s.blk vals.toArray).run P w = .ok (.round s.blk f tmps as bd) w ∧ ∀ n, RoundIn Fence.wide n P s.blk f tmps as bd w (ranR P B0 A ρ m w v m') := by
  obtain ⟨rm, hrm, hid, h⟩ := look_ok h
  have hmono := round_mono hden hlow h
  obtain ⟨st, pd, N, D, e, ps, as, bd, dfr, e0, e1, m1, rm1, st1, pd1, N1, D1, e1', ps1, as1, bd1, dfr1, x2, e2, m3, rm3, hob, hlen, henv, h1, hrm1, hob1, rfl, hg, hlt, h2, hrm3, h3⟩ := roundOb_split h
  obtain ⟨st3, pd3, N3, D3, e3, ps3, as3, bd3, dfr3, hob3, hg3, hlt3, rfl, rfl⟩ := endRoundOb_ok h3
  have mo1 := (hden N D as).mono _ _ _ _ _ _ hlow h1
  have mo2 := (hden N D bd).mono _ _ _ _ _ _ hlow h2
  have hA : A id := hin id (.inl (Nat.min_le_right _ _))
  have hat := hr.rows _ _ hs (.inl hA)
  rw [hob] at hat
  obtain ⟨fn, tmps, sd, hb, hsd, henv0⟩ := hat
  have hlv : vals.length = ps.length := by rw [hlen]; exact hargs.length.symm
  have hy := run_yield (P := P) (args := vals.toArray) hb (by simp [hlv])
  have hfold : (ps.toArray.zip vals.toArray).foldl (fun tmps (t, a) => tmps.setIfInBounds t a) tmps = (ps.zip vals).foldl (fun t p => t.setIfInBounds p.1 p.2) tmps := by
    rw [List.zip_toArray, List.foldl_toArray]
  have hfold : ((({ state := st, pending := pd.map jmpCode, fn, tmps, params := ps.toArray, assign := as, body := bd, defers := sd.blk } : Loop).params.zip vals.toArray).foldl (fun tmps (t, a) => tmps.setIfInBounds t a) tmps) = (ps.zip vals).foldl (fun t p => t.setIfInBounds p.1 p.2) tmps := hfold
  refine ⟨fn, _, as, bd, hy, fun n => roundIn_of_wpIn trivial ?_⟩
  have henv1 := henv ρ vals tmps henv0 hargs
  rw [← hfold] at henv1
  -- where it begins
  have hm0 : WF P ⟨m.H, m.nx, rm, m.wm, m.dfs⟩ := ⟨hw.gnx, hw.cap, hw.dead⟩
  have moA : Mono P ⟨m.H, m.nx, rm, m.wm, m.dfs⟩ m1 := mo1
  have moB : Mono P m1 ⟨updN hd id m1.H (.lp .busy pd1 N1 D1 e1' ps1 as1 bd1 dfr1), m1.nx, min rm1 id, min m1.wm id, m1.dfs⟩ := Mono.upd' m1 hg hlt _ _ hrm1
  have moD : Mono P m3 ⟨updN hd id m3.H (.lp (if (jumpOf x2).isNone then .ready else .done) (jumpOf x2) N3 D3 e3 ps3 as3 bd3 dfr3), m3.nx, min rm3 id, min m3.wm id, m3.dfs⟩ := Mono.upd' m3 hg3 hlt3 _ _ hrm3
  generalize hme : (⟨updN hd id m3.H (.lp (if (jumpOf x2).isNone then .ready else .done) (jumpOf x2) N3 D3 e3 ps3 as3 bd3 dfr3), m3.nx, min rm3 id, min m3.wm id, m3.dfs⟩ : M) = me at *
  have hin0 : In A ⟨m.H, m.nx, rm, m.wm, m.dfs⟩ me := hin
  have hf0 : Fresh ρ ⟨m.H, m.nx, rm, m.wm, m.dfs⟩ me := hf
  have mBD := mo2.trans moD
  have mAD := moB.trans mBD
  have hF : FOK ρ (some id) (Fence.wide.inRound s.blk) := ⟨s, hs, rfl⟩
  refine (hden N D as).on hlow h1 hm0 (hin0.first mAD) hr henv1 (hf0.first mAD) (by show DR ρ m.dfs []; rw [hdfs]; exact trivial) hF n fun a1 w1 ρ1 g1 => ?_
  -- it begins
  have hs1 := g1.post.ext _ _ hs
  have hat1 := g1.post.rel.rows _ _ hs1 (.inl hA)
  rw [hob1] at hat1
  obtain ⟨fn1, tmps1, sd1, hb1, hsd1, henv1'⟩ := hat1
  have hor1 : OR ρ1 s (.lp .busy pd1 N1 D1 e1' ps1 as1 bd1 dfr1) (some (.loop { state := .busy, pending := pd1.map jmpCode, fn := fn1, tmps := tmps1, params := ps1.toArray, assign := as1, body := bd1, defers := sd1.blk })) := ⟨fn1, tmps1, sd1, rfl, hsd1, henv1'⟩
  have hpB := (Post.setOb g1.post.wf g1.post.rel hA hs1 hg (fun h => by rw [hob1] at h; cases h) hb1 _ _ hor1 (min rm1 id) (min m1.wm id) m1.dfs).more (W' := fun j => min m1.wm id ≤ j) (fun j hj => by rw [hj]; exact Nat.min_le_right _ _)
  refine ⟨_, run_beginRound (P := P) hb1 rfl, ?_⟩
  have hinB := hin0.second moA
  have hfB := hf0.second moA g1.post
  refine (hden N D bd).on hlow h2 hpB.wf ((hinB.second moB).first moD) hpB.rel g1.env ((hfB.second moB hpB).first moD) g1.dfs (hF.mono g1.post.ext) n fun a3 w3 ρ3 g3 => ?_
  -- it ends
  have hs3 := g3.post.ext _ _ hs1
  have hat3 := g3.post.rel.rows _ _ hs3 (.inl hA)
  have hob3 : obj m3.H id = .lp st3 pd3 N3 D3 e3 ps3 as3 bd3 dfr3 := hob3
  rw [hob3] at hat3
  obtain ⟨fn3, tmps3, sd3, hb3, hsd3, henv3⟩ := hat3
  have hor3 : OR ρ3 s (.lp (if (jumpOf x2).isNone then .ready else .done) (jumpOf x2) N3 D3 e3 ps3 as3 bd3 dfr3) (some (.loop { state := if (jumpOf x2).isNone then .ready else .done, pending := (jumpOf x2).map jmpCode, fn := fn3, tmps := tmps3, params := ps3.toArray, assign := as3, body := bd3, defers := sd3.blk })) := ⟨fn3, tmps3, sd3, rfl, hsd3, henv3⟩
  have hpD := (Post.setOb g3.post.wf g3.post.rel hA hs3 hg (fun h => by rw [hob3] at h; cases h) hb3 _ _ hor3 (min rm3 id) (min m3.wm id) m3.dfs).more (W' := fun j => me.wm ≤ j) (fun j hj => by rw [hj, ← hme]; exact Nat.min_le_right _ _)
  rw [hme] at hpD
  have hnone : ((jumpOf x2).map jmpCode).isNone = (jumpOf x2).isNone := by cases x2 <;> rfl
  have hend := run_endRound (P := P) ((jumpOf x2).map jmpCode) hb3
  rw [hnone] at hend
  refine roundPost_of x2 hend ⟨_, ρ3, rfl, rfl, ?_⟩
  have c1 := g1.post.behind hpB moB (hf0.first mBD)
  have c2 := c1.behind g3.post mo2 (hf0.first moD)
  have c3 := c2.behind hpD moD hf0
  exact c3.marks rfl rfl rfl rfl

/-! ### Functions -/

theorem shutOb_ok {id : Nat} {k : M → RO} {ob : Ob} {v : AV} (h : shutOb P id k ob m = .ok v m') : ob = .dfr ∧ glb P ≤ id ∧ id < m.nx ∧ k ⟨updN hd id m.H .dead, m.nx, min m.rm id, min m.wm id, m.dfs⟩ = .ok v m' := by
  unfold shutOb at h
  split at h
  · rcases turn_ok' h with h | ⟨hg, hlt, h⟩
    · cases h
    · exact ⟨rfl, hg, hlt, h⟩
  · cases h

theorem shutDfs_mono {m0 : M} {k : M → RO} (hk : ∀ m1, Mono P m0 m1 → MonoR P m0 (k m1)) : ∀ (l : List Nat) (m : M), Mono P m0 m → MonoR P m0 (shutDfs P l k m)
  | [], m, hm => hk m hm
  | id :: r, m, hm => .look hm fun ob m1 h1 => by
      unfold shutOb; split
      · exact .turn h1 (.fail _) fun m2 h2 => shutDfs_mono hk r m2 h2
      · exact .fail _

theorem shut_ok {k : M → RO} {v : AV} {fn : Func} {tmps : Array Value} {R : Ending → World → Prop} {F : Fence} {n : Nat} (hk : ∀ m1 v m', k m1 = .ok v m' → Mono P m1 m') : ∀ (l : List Nat) (m : M) (ρ : Rho) (w : World) (ds : List Deferred), shutDfs P l k m = .ok v m' →
    WF P m → In A m m' → Rel P B0 A ρ m.H w → Fresh ρ m m' → DR ρ l ds →
    (∀ m1 w1, Post P B0 A (fun id => m'.wm ≤ id) ρ m w ρ m1 w1 → Mono P m m1 → Mono P m1 m' → k m1 = .ok v m' → ∃ y, (results fn tmps).run P w1 = .ok y w1 ∧ R (.returned y) w1) → LeavesInM F n P fn tmps R ds .returning w
  | [], m, ρ, w, ds, h, hw, hin, hr, hf, hd, hQ => by
    cases ds with
    | nil => exact hQ m w (Post.refl hw hr) (Mono.refl m) (hk m v m' h) h
    | cons _ _ => exact hd.elim
  | id :: r, m, ρ, w, ds, h, hw, hin, hr, hf, hd, hQ => by
    cases ds with
    | nil => exact hd.elim
    | cons d ds =>
      obtain ⟨⟨s, hs, rfl⟩, hd⟩ := hd
      obtain ⟨rm, hrm, hid, h⟩ := look_ok (k := shutOb P id (shutDfs P r k)) h
      obtain ⟨hob, hg, hlt, h⟩ := shutOb_ok h
      have mo2 : Mono P ⟨updN CE.hd id m.H .dead, m.nx, min rm id, min m.wm id, m.dfs⟩ m' := shutDfs_mono (m0 := ⟨updN CE.hd id m.H .dead, m.nx, min rm id, min m.wm id, m.dfs⟩) (fun m1 h1 v m' hkk => h1.trans (hk m1 v m' hkk)) r _ (Mono.refl _) v m' h
      have mo1 : Mono P m ⟨updN CE.hd id m.H .dead, m.nx, min rm id, min m.wm id, m.dfs⟩ := Mono.upd' m hg hlt _ _ hrm
      have hA : A id := hin id (.inl (Nat.le_trans mo2.rm (Nat.min_le_right _ _)))
      have hat := hr.rows _ _ hs (.inl hA)
      rw [hob] at hat
      have hb : w.heap[s.blk]? = some (.deferred (some [])) := hat
      have hp := (Post.setOb hw hr hA hs hg (fun h => by rw [hob] at h; cases h) hb .dead (.deferred none) trivial (min rm id) (min m.wm id) m.dfs).more (W' := fun j => min m.wm id ≤ j) (fun j hj => by rw [hj]; exact Nat.min_le_right _ _)
      refine ⟨by simp, .inl ⟨s.blk, _, rfl, run_takeDeferred hb, ?_⟩⟩
      refine shut_ok hk r _ ρ _ ds h hp.wf (hin.second mo1) hp.rel (hf.second mo1 hp) hd fun m1 w1 hp1 hm1 hm1' hk1 => ?_
      refine hQ m1 w1 ?_ (mo1.trans hm1) hm1' hk1
      have hp' := hp.more (W' := fun j => m'.wm ≤ j) (fun j hj => Nat.le_trans mo2.wm hj)
      exact hp'.trans hp1 (hf.first hm1')

/-- A result. -/
def resRun (tmps : Array Value) : ResultVar → Sem Value
  | .tmp t => pure (tmps.getD t undef)
  | .cell a t => do loadVar t (← asAddr (tmps.getD a undef))

theorem resOne_ok {N D : Nat} {r : ResultVar} {c : Ctx} {e : NT D AV} {v : AV} (h : (resOne P r).f c e m = .ok v m') : ∃ rm, rm ≤ m.rm ∧ m' = ⟨m.H, m.nx, rm, m.wm, m.dfs⟩ ∧
    ∀ (B0 : Nat) (A : Nat → Prop) (ρ : Rho) (a : Act) (w : World), Rel P B0 A ρ m.H w → ENV ρ N D e a.tmps → (∀ id, rm ≤ id → A id) → ∃ y, (resRun a.tmps r).run P w = .ok y w ∧ AR ρ v y := by
  cases r with
  | tmp t =>
    have h : ((iff (Nat.ble (Nat.succ t) (capN D)) ⟨fun _ e m => forceA ((getN D t).f e) m⟩ (noOp 198) : OpF D)).f c e m = .ok v m' := h
    rw [iff_ble] at h
    by_cases ht : Nat.succ t ≤ capN D
    · rw [if_pos ht] at h
      have h : forceA ((getN D t).f e) m = .ok v m' := h
      rw [forceA_eq] at h
      cases h
      exact ⟨m.rm, Nat.le_refl _, rfl, fun B0 A ρ a w hr he hA => ⟨_, rfl, he.get t ht⟩⟩
    · rw [if_neg ht] at h; cases h
  | cell x t =>
    have h : (loadD P t (.tmp x)).f c e m = .ok v m' := h
    obtain ⟨id, off, rm, hx, hrm, hid, _, rfl, hgo⟩ := loadD_go (o := { (default : Oper) with op := .load t (.tmp x) }) rfl h
    refine ⟨rm, hrm, rfl, fun B0 A ρ a w hr he hA => ?_⟩
    obtain ⟨y, hy, hay⟩ := hgo B0 A N ρ a w hr he (hid.imp (fun h => hA id h) fun h => h)
    refine ⟨y, ?_, hay⟩
    have hxv := he.eval hr.glob (.tmp x)
    rw [hx] at hxv
    obtain ⟨sg, hsg, hv⟩ := hxv
    have hv : a.tmps.getD x undef = .pointer (some ⟨sg.blk, sg.base + off, none⟩) := hv
    have hev : a.eval (.tmp x) = .pointer (some ⟨sg.blk, sg.base + off, none⟩) := hv
    have hl := run_bind_value hy
    unfold resRun
    simp only [hev, Instr.loadAt, Instr.sureAddr, Sem.run_bind, Sem.run_pure, Result.andThen_ok] at hl
    simp only [hv, asAddr, Sem.run_bind, Sem.run_pure, Result.andThen_ok]
    exact hl

theorem resAll_ok {N D : Nat} {c : Ctx} {e : NT D AV} {v : AV} : ∀ (l : List ResultVar) (m : M) (k : List TV → M → RO), (resAll P l).f e c m k = .ok v m' → ∃ rm vs, rm ≤ m.rm ∧ vs.length = l.length ∧ k vs ⟨m.H, m.nx, rm, m.wm, m.dfs⟩ = .ok v m' ∧
    ∀ (B0 : Nat) (A : Nat → Prop) (ρ : Rho) (a : Act) (w : World), Rel P B0 A ρ m.H w → ENV ρ N D e a.tmps → (∀ id, rm ≤ id → A id) → ∃ ys, (l.mapM (resRun a.tmps)).run P w = .ok ys w ∧ All2 (TR ρ) vs ys
  | [], m, k, h => ⟨m.rm, [], Nat.le_refl _, rfl, h, fun _ _ _ _ _ _ _ _ => ⟨[], rfl, trivial⟩⟩
  | r :: l, m, k, h => by
    have h : onOk ((resOne P r).f c e m) .fail (fun v m => tvOf v (.fail [199]) fun v => (resAll P l).f e c m fun r m => k (v :: r) m) = .ok v m' := h
    cases hr1 : (resOne P r).f c e m with
    | fail w => rw [hr1] at h; cases h
    | ok v1 m1 =>
      rw [hr1] at h
      have h : tvOf v1 (.fail [199]) (fun v => (resAll P l).f e c m1 fun r m => k (v :: r) m) = .ok v m' := h
      obtain ⟨rm1, hrm1, rfl, hgo1⟩ := resOne_ok (N := N) hr1
      rcases tvOf_ok h with h | ⟨t, h, _, ht⟩
      · cases h
      · obtain ⟨rm, vs, hrm, hlen, h, hgo⟩ := resAll_ok (N := N) l _ _ h
        refine ⟨rm, t :: vs, Nat.le_trans hrm hrm1, by simp [hlen], h, fun B0 A ρ a w hr he hA => ?_⟩
        obtain ⟨y, hy, hay⟩ := hgo1 B0 A ρ a w hr he (fun id hid => hA id (Nat.le_trans hrm hid))
        obtain ⟨ys, hys, hall⟩ := hgo B0 A ρ a w hr he hA
        refine ⟨y :: ys, ?_, ht ρ y hay, hall⟩
        simp only [List.mapM_cons, Sem.run_bind, hy, Result.andThen_ok, hys, Sem.run_pure]

theorem results_run (fn : Func) (tmps : Array Value) {ys : List Value} (h : (fn.results.toList.mapM (resRun tmps)).run P w = .ok ys w) : (results fn tmps).run P w = .ok (if ys.length = 1 then ys.headD undef else .tuple ys.toArray) w := by
  have e : results fn tmps = (do let vs ← fn.results.mapM (resRun tmps); pure (if h : vs.size = 1 then vs[0] else .tuple vs)) := by
    unfold results
    refine congrArg (fun g => (do let vs ← fn.results.mapM g; pure (if h : vs.size = 1 then vs[0] else .tuple vs) : Sem Value)) ?_
    funext r; cases r <;> rfl
  rw [e, Array.mapM_eq_mapM_toList]
  simp only [Sem.run_bind, Sem.run_map, h, Result.andThen_ok, Sem.run_pure]
  match ys with
  | [] => rfl
  | [y] => rfl
  | _ :: _ :: _ => simp

theorem resD_ok {N D : Nat} {fn : Func} {c : Ctx} {e : NT D AV} {v : AV} (h : (resD P fn.results.toList).f c e m = .ok v m') : ∃ rm, rm ≤ m.rm ∧ m' = ⟨m.H, m.nx, rm, m.wm, m.dfs⟩ ∧
    ∀ (B0 : Nat) (A : Nat → Prop) (ρ : Rho) (a : Act) (w : World), Rel P B0 A ρ m.H w → ENV ρ N D e a.tmps → (∀ id, rm ≤ id → A id) → ∃ y, (results fn a.tmps).run P w = .ok y w ∧ AR ρ v y := by
  unfold resD at h
  split at h
  · rename_i r hl
    obtain ⟨rm, hrm, hm, hgo⟩ := resOne_ok (N := N) h
    refine ⟨rm, hrm, hm, fun B0 A ρ a w hr he hA => ?_⟩
    obtain ⟨y, hy, hay⟩ := hgo B0 A ρ a w hr he hA
    have : (fn.results.toList.mapM (resRun a.tmps)).run P w = .ok [y] w := by
      rw [hl]
      simp only [List.mapM_cons, List.mapM_nil, Sem.run_bind, hy, Result.andThen_ok, Sem.run_pure]
    exact ⟨y, results_run fn a.tmps this, hay⟩
  · rename_i hne
    have h : (resAll P fn.results.toList).f e c m (fun vs m => .ok (.tup vs) m) = .ok v m' := h
    obtain ⟨rm, vs, hrm, hlen, hk, hgo⟩ := resAll_ok (N := N) _ _ _ h
    cases hk
    refine ⟨rm, hrm, rfl, fun B0 A ρ a w hr he hA => ?_⟩
    obtain ⟨ys, hys, hall⟩ := hgo B0 A ρ a w hr he hA
    have hres := results_run fn a.tmps hys
    have hl1 : ys.length ≠ 1 := fun h1 => by
      obtain ⟨r, hr1⟩ := List.length_eq_one_iff.1 (by rw [← hlen, hall.length]; exact h1 : fn.results.toList.length = 1)
      exact hne r hr1
    rw [if_neg hl1] at hres
    exact ⟨.tuple ys.toArray, hres, ys.toArray, rfl, hall⟩

/-! ### As deep as calls go -/

theorem tagF_ok {f : Nat} {r : RO} {v : AV} (h : tagF f r = .ok v m') : r = .ok v m' := by
  cases r with
  | fail w => cases h
  | ok v1 m1 => exact h

/-- A function's call, in its pieces. -/
theorem fnD_split {lf f : Nat} {low : Low} {args : List AV} {v : AV} (h : (fnD P lf f).f low args m = .ok v m') :
    ∃ fn b D, P.funcs[f]? = some fn ∧ fn.body = some b ∧ ∃ (e0 e1 : NT D AV) (x : Ex) (m1 : M), fn.ntmps ≤ capN D ∧ args.length ≤ fn.ntmps ∧ (∀ i, i < capN D → (getN D i).f e0 = args.getD i undefA) ∧
      (den P fn.ntmps b).run.f ⟨low, lf, none⟩ e0 m = .ok x e1 m1 ∧ (x = .norm ∨ x = .ret) ∧ shutDfs P m1.dfs (fun m => (resD P fn.results.toList).f ⟨low, lf, none⟩ e1 m) m1 = .ok v m' := by
  unfold fnD at h
  split at h
  · rename_i fn hfn
    split at h
    · rename_i b hb
      unfold fnBody at h
      rw [iff_eq] at h
      split at h
      · rename_i hcap
        have hcap := ble_iff.1 hcap
        have h : iff (Nat.ble args.length fn.ntmps) (bld undefA (levE fn.ntmps) args (fnRun P (den P fn.ntmps b).run (resD P fn.results.toList) ⟨low, lf, none⟩ m)) (.fail [201]) = .ok v m' := h
        rw [iff_ble] at h
        split at h
        · rename_i hlen
          obtain ⟨e0, h1, h2⟩ := bld_ok undefA (levE fn.ntmps) args (fnRun P (den P fn.ntmps b).run (resD P fn.results.toList) ⟨low, lf, none⟩ m)
          rw [h1] at h
          unfold fnRun at h
          obtain ⟨x, e1, m1, h3, h4⟩ := onExO_ok h
          refine ⟨fn, b, levE fn.ntmps, hfn, hb, e0, e1, x, m1, hcap, hlen, h2, h3, ?_⟩
          unfold finishX at h4
          split at h4
          · exact ⟨.inl rfl, h4⟩
          · exact ⟨.inr rfl, h4⟩
          · cases h4
        · cases h
      · cases h
    · cases h
  · cases h

theorem resD_mono {fn : Func} {D : Nat} {c : Ctx} {e : NT D AV} {m1 : M} {v : AV} (h : (resD P fn.results.toList).f c e m1 = .ok v m') : Mono P m1 m' := by
  obtain ⟨rm, hrm, rfl, _⟩ := resD_ok (N := 0) h
  exact Mono.marks' m1 _ hrm

theorem fn_mono (hden : DenOK P) {lf f : Nat} {low : Low} (hlow : LowOK P low) {args : List AV} {v : AV} (h : (fnD P lf f).f low args m = .ok v m') : Mono P m m' := by
  obtain ⟨fn, b, D, hfn, hb, e0, e1, x, m1, hcap, hlen, h2, h3, _, h4⟩ := fnD_split h
  exact ((hden fn.ntmps D b).mono _ _ _ _ _ _ hlow h3).trans (shutDfs_mono (fun m2 h2 v m' hk => h2.trans (resD_mono hk)) m1.dfs m1 (Mono.refl _) v m' h4)

theorem fn_ok (hden : DenOK P) {lf f : Nat} {low : Low} (hlow : LowOK P low) {args : List AV} {v : AV} (h : (fnD P lf f).f low args m = .ok v m') (hdfs : m.dfs = [])
    (hw : WF P m) (hin : In A m m') (hr : Rel P B0 A ρ m.H w) (hf : Fresh ρ m m') {vals : List Value} (hargs : All2 (AR ρ) args vals) (n : Nat) : CallsIn Fence.wide n P f vals.toArray w (ranR P B0 A ρ m w v m') := by
  obtain ⟨fn, b, D, hfn, hb, e0, e1, x, m1, hcap, hlen, h2, h3, hx, h4⟩ := fnD_split h
  have mo1 := (hden fn.ntmps D b).mono _ _ _ _ _ _ hlow h3
  have mo2 : Mono P m1 m' := shutDfs_mono (fun m2 h2 v m' hk => h2.trans (resD_mono hk)) m1.dfs m1 (Mono.refl _) v m' h4
  refine callsIn_of_wp_marks hfn hb trivial ?_
  have hvl : vals.length = args.length := hargs.length.symm
  have henv : ENV ρ fn.ntmps D e0 (vals.toArray ++ Array.replicate (fn.ntmps - vals.toArray.size) undef) := by
    refine ⟨by simp; omega, hcap, fun i hi => ?_⟩
    rw [h2 i hi, List.getD_eq_getElem?_getD, Array.getD_eq_getD_getElem?, Array.getElem?_append]
    by_cases hlt : i < args.length
    · obtain ⟨y, hy, hay⟩ := hargs.get i args[i] (List.getElem?_eq_getElem hlt)
      rw [List.getElem?_eq_getElem hlt]
      simp only [List.size_toArray]
      rw [if_pos (by omega), List.getElem?_toArray, hy]
      exact hay
    · rw [List.getElem?_eq_none (by omega)]
      simp only [List.size_toArray]
      rw [if_neg (by omega)]
      have : ((Array.replicate (fn.ntmps - vals.length) undef)[i - vals.length]?).getD undef = undef := by
        rw [Array.getElem?_replicate]
        split <;> rfl
      rw [this]
      exact AR.undef ρ
  refine (hden fn.ntmps D b).on hlow h3 hw (hin.first mo2) hr henv (hf.first mo2) (by rw [hdfs]; exact trivial) rfl n fun a1 w1 ρ1 g1 => ?_
  have leaves : LeavesInM Fence.wide n P fn a1.tmps (ranR P B0 A ρ m w v m') a1.defers .returning w1 := by
    refine shut_ok (fun m1 v m' hk => resD_mono hk) m1.dfs m1 ρ1 w1 a1.defers h4 g1.post.wf (hin.second mo1) g1.post.rel (hf.second mo1 g1.post) g1.dfs fun m2 w2 hp2 hm2 hm2' hk2 => ?_
    obtain ⟨rm, hrm, rfl, hgo⟩ := resD_ok (N := fn.ntmps) hk2
    obtain ⟨y, hy, hay⟩ := hgo B0 A ρ1 a1 w2 hp2.rel g1.env (fun id hid => hin id (.inl hid))
    refine ⟨y, hy, y, ρ1, rfl, hay, ?_⟩
    have hp1 := g1.post.more (W' := fun id => m2.wm ≤ id) (fun j hj => Nat.le_trans hm2.wm hj)
    exact (hp1.trans hp2 (hf.first hm2')).marks rfl rfl rfl rfl
  rcases hx with rfl | rfl
  · exact leaves
  · exact leaves

/-- What calls lead to is as it is worked out, as deep as may be. -/
theorem lowN_ok (hden : DenOK P) (lf : Nat) : ∀ n, LowOK P (lowN P lf n)
  | 0 => ⟨fun _ _ _ _ _ h => (by cases h), fun _ _ _ _ _ h => (by cases h), fun _ _ _ _ _ h => (by cases h), fun _ _ _ _ _ h => (by cases h)⟩
  | n + 1 => by
    have ih := lowN_ok hden lf n
    refine ⟨fun f args m v m' h => fn_mono hden ih (tagF_ok h), fun id args m v m' h => ?_, fun f args m v m' h hdfs B0 A ρ w vals hw hin hr hf hargs k => fn_ok hden ih (tagF_ok h) hdfs hw hin hr hf hargs k,
      fun id args m v m' h hdfs B0 A ρ w vals s hw hin hr hf hargs hs => round_ok hden ih h hdfs hw hin hr hf hargs hs⟩
    have h : look P id m (roundOb P lf (lowN P lf n) id args) = .ok v m' := h
    obtain ⟨rm, hrm, _, h⟩ := look_ok h
    have := round_mono hden ih h
    exact (Mono.marks' m _ hrm).trans this

end Go.CE
end WT

/- An operation looks at its operands alone. No program is named. -/
noncomputable section WU
namespace Go.CE
open Go

variable {P : Program} {D : Nat} {e e2 : NT D AV} {c : Ctx} {m : M}

/-- Two stacks of temporaries are alike for an operand. -/
def Alike (P : Program) {D : Nat} (e e2 : NT D AV) (x : Operand) : Prop := (evO P x).f e = (evO P x).f e2

theorem allPlain_local : ∀ (l : List Operand), (∀ x ∈ l, Alike P e e2 x) → (allPlain P l).f e = (allPlain P l).f e2
  | [], _ => rfl
  | x :: r, h => by
    show iff (plainA ((evO P x).f e)) ((allPlain P r).f e) false = iff (plainA ((evO P x).f e2)) ((allPlain P r).f e2) false
    rw [h x (by simp), allPlain_local r fun y hy => h y (by simp [hy])]

theorem genOp_local (o : Oper) (hs : ∀ cs b, o.op ≠ .select cs b) (h : ∀ x ∈ o.op.operands.toList, Alike P e e2 x) : (genOp P o).f c e m = (genOp P o).f c e2 m := by
  show iff ((allPlain P o.op.operands.toList).f e) ((gen P o).f c e m) (.fail (opTag o.op)) = iff ((allPlain P o.op.operands.toList).f e2) ((gen P o).f c e2 m) (.fail (opTag o.op))
  rw [allPlain_local _ h]
  have : (gen P o).f c e m = (gen P o).f c e2 m := by
    show backN (arun P (execOp (fun x => genV ((evO P x).f e)) o)) m = backN (arun P (execOp (fun x => genV ((evO P x).f e2)) o)) m
    rw [execOp_congr o hs fun x hx => by rw [h x (by simpa using hx)]]
  rw [this]

theorem layParts_local {β : Type} (bad : β) : ∀ (l : List Part), (∀ p ∈ l, Alike P e e2 p.x) → ∀ (cs : List CV) (k : List CV → β), (layParts P bad l).f e cs k = (layParts P bad l).f e2 cs k
  | [], _, _, _ => rfl
  | p :: r, h, cs, k => by
    have ih := layParts_local bad r fun y hy => h y (by simp [hy])
    show cellsA ((evO P p.x).f e) bad (fun vs => iff (Nat.beq vs.length p.sz) (spl bad p.off vs cs fun cs => (layParts P bad r).f e cs k) bad) = cellsA ((evO P p.x).f e2) bad (fun vs => iff (Nat.beq vs.length p.sz) (spl bad p.off vs cs fun cs => (layParts P bad r).f e2 cs k) bad)
    rw [h p (by simp)]
    simp only [ih]

theorem partsStruct_mem {fields : Array Field} : ∀ {l : List (Nat × Operand)} {ps : List Part}, partsStruct P fields l = some ps → ∀ p ∈ ps, p.x ∈ l.map (·.2)
  | [], ps, h, p, hp => by
    simp only [partsStruct] at h
    cases h; cases hp
  | q :: r, ps, h, p, hp => by
    simp only [partsStruct] at h
    split at h
    · rename_i p1 l1 h1 h2
      cases h
      rcases List.mem_cons.1 hp with rfl | hp
      · unfold placeStruct at h1
        split at h1
        · split at h1
          · cases h1; simp
          · cases h1
        · cases h1
      · have := partsStruct_mem h2 p hp
        simp only [List.map_cons, List.mem_cons]
        exact .inr this
    · cases h

theorem partsRow_mem {s : Nat} {l : List (Nat × Operand)} {p : Part} (hp : p ∈ partsRow s l) : p.x ∈ l.map (·.2) := by
  unfold partsRow at hp
  obtain ⟨q, hq, rfl⟩ := List.mem_map.1 hp
  exact List.mem_map.2 ⟨q, hq, rfl⟩

theorem ptrs_local : ∀ (l : List Operand), (∀ x ∈ l, Alike P e e2 x) → ∀ k, (ptrs P l).f e k = (ptrs P l).f e2 k
  | [], _, _ => rfl
  | x :: r, h, k => by
    have ih := ptrs_local r fun y hy => h y (by simp [hy])
    have hx : (evO P x).f e = (evO P x).f e2 := h x (by simp)
    unfold ptrs
    simp only [hx, ih]

theorem evArgs_local : ∀ (l : List Operand), (∀ x ∈ l, Alike P e e2 x) → ∀ k, (evArgs P l).f e k = (evArgs P l).f e2 k
  | [], _, _ => rfl
  | x :: r, h, k => by
    have ih := evArgs_local r fun y hy => h y (by simp [hy])
    have hx : (evO P x).f e = (evO P x).f e2 := h x (by simp)
    unfold evArgs
    simp only [hx, ih]

theorem bound_local {x : Option Operand} {d : Nat} (h : ∀ y ∈ x.toList, Alike P e e2 y) (k : Nat → RO) : bound P x d e k = bound P x d e2 k := by
  cases x with
  | none => rfl
  | some x =>
    have : (evO P x).f e = (evO P x).f e2 := h x (by simp)
    unfold bound
    simp only [this]

theorem isCapOf_local {mx : Option Operand} (h : ∀ y ∈ mx.toList, Alike P e e2 y) (id cap : Nat) : isCapOf P mx e id cap = isCapOf P mx e2 id cap := by
  cases mx with
  | none => rfl
  | some x =>
    have : (evO P x).f e = (evO P x).f e2 := h x (by simp)
    unfold isCapOf
    simp only [this]

theorem callD_local {f : Operand} {args : List Operand} (hf : Alike P e e2 f) (h : ∀ x ∈ args, Alike P e e2 x) : (callD P f args).f c e m = (callD P f args).f c e2 m := by
  unfold callD
  split
  · rw [iff_eq]
    split
    · exact evArgs_local _ h _
    · exact evArgs_local _ h _
  · show callV P args c.low e m _ = callV P args c.low e2 m _
    have : (evO P f).f e = (evO P f).f e2 := hf
    rw [this]
    unfold callV
    split
    · rw [evArgs_local _ h]
    · exact evArgs_local _ h _
    · rfl

theorem builtinD_local {o : Oper} {b : Builtin} {args : Array Operand} {ts : Array TypeId} (hs : ∀ cs b, o.op ≠ .select cs b) (ho : ∀ x ∈ o.op.operands.toList, Alike P e e2 x) (h : ∀ x ∈ args.toList, Alike P e e2 x) :
    (builtinD P o b args ts).f c e m = (builtinD P o b args ts).f c e2 m := by
  unfold builtinD
  split
  · rename_i x hl
    have hx : (evO P x).f e = (evO P x).f e2 := h x (by rw [hl]; simp)
    split
    · unfold capD; split
      · simp only [hx]
      · exact genOp_local o hs ho
    · rfl
  · rename_i x hl
    have hx : (evO P x).f e = (evO P x).f e2 := h x (by rw [hl]; simp)
    simp only [hx]
  · rename_i x y hl
    have hx : (evO P x).f e = (evO P x).f e2 := h x (by rw [hl]; simp)
    have hy : (evO P y).f e = (evO P y).f e2 := h y (by rw [hl]; simp)
    unfold dataTextD; split
    · split
      · rw [iff_eq]; split <;> first | rfl | simp only [hx, hy]
      · rfl
    · rfl
  · rename_i x hl
    have hx : (evO P x).f e = (evO P x).f e2 := h x (by rw [hl]; simp)
    split
    · unfold lenD; split <;> first | rfl | simp only [hx]
    · rfl
  · rename_i x y hl
    have hx : (evO P x).f e = (evO P x).f e2 := h x (by rw [hl]; simp)
    have hy : (evO P y).f e = (evO P y).f e2 := h y (by rw [hl]; simp)
    unfold appendD; split
    · split
      · unfold appendE; split
        · unfold appendL; rw [iff_eq]; split <;> first | rfl | simp only [hx, hy]
        · rfl
      · unfold appendE; split
        · unfold appendL; rw [iff_eq]; split <;> first | rfl | simp only [hx, hy]
        · rfl
      · rfl
    · rfl
  · rename_i x y hl
    have hx : (evO P x).f e = (evO P x).f e2 := h x (by rw [hl]; simp)
    have hy : (evO P y).f e = (evO P y).f e2 := h y (by rw [hl]; simp)
    unfold copyD; split
    · split
      · unfold copyL; split <;> first | rfl | simp only [hx, hy]
      · rfl
    · rfl
  all_goals first | rfl | exact genOp_local o hs ho

theorem opD_local (o : Oper) (h : ∀ x ∈ o.op.operands.toList, Alike P e e2 x) : (opD P o).f c e m = (opD P o).f c e2 m := by
  obtain ⟨dst, op, ty, pos, after, guard⟩ := o
  have go : ∀ (y : Operand), y ∈ (Oper.mk dst op ty pos after guard).op.operands.toList → (evO P y).f e = (evO P y).f e2 := h
  cases op
  case move x => have hx := go x (by simp [Op.operands]); simp only [opD, moveD, hx]
  case assign x => have hx := go x (by simp [Op.operands]); simp only [opD, moveD, hx]
  case pick a b d =>
    have h1 := go a (by simp [Op.operands]); have h2 := go b (by simp [Op.operands]); have h3 := go d (by simp [Op.operands])
    simp only [opD, pickD, h1, h2, h3]
  case alloc t => simp only [opD]; unfold allocD; split <;> rfl
  case box t x => have hx := go x (by simp [Op.operands]); simp only [opD, boxD, hx]
  case build t ps =>
    have hl : ∀ y ∈ ps.toList.map (·.2), Alike P e e2 y := fun y hy => go y (by simpa [Op.operands] using hy)
    simp only [opD]; unfold buildD; split
    · unfold buildS; split
      · rename_i q _ hq _
        exact layParts_local _ _ (fun p hp => hl _ (partsStruct_mem hq p hp)) _ _
      · rfl
    · unfold buildR; split
      · exact layParts_local _ _ (fun p hp => hl _ (partsRow_mem hp)) _ _
      · rfl
    · rfl
  case buildSlice t n ps =>
    have hl : ∀ y ∈ ps.toList.map (·.2), Alike P e e2 y := fun y hy => go y (by simpa [Op.operands] using hy)
    simp only [opD]; unfold buildSliceD; split
    · split
      · unfold buildSliceL; rw [iff_eq]; split
        · exact layParts_local _ _ (fun p hp => hl _ (partsRow_mem hp)) _ _
        · rfl
      · rfl
    · rfl
  case load t x => have hx := go x (by simp [Op.operands]); simp only [opD]; unfold loadD; split
                   · rw [iff_eq]; split <;> first | rfl | simp only [hx]
                   · rfl
  case store t x y =>
    have hx := go x (by simp [Op.operands]); have hy := go y (by simp [Op.operands])
    simp only [opD]; unfold storeD; split <;> first | rfl | simp only [hx, hy]
  case nilCheck x => have hx := go x (by simp [Op.operands]); simp only [opD, nilCheckD, hx]
  case binOp op t x y s =>
    have hx := go x (by simp [Op.operands]); have hy := go y (by simp [Op.operands])
    have hg := genOp_local (P := P) (e := e) (e2 := e2) (c := c) (m := m) ⟨dst, .binOp op t x y s, ty, pos, after, guard⟩ (fun _ _ => by simp) h
    simp only [opD]; unfold binD; split
    · simp only [hx, hy]
    · simp only [hx, hy]
    · simp only [hx, hy, hg]
  case unOp op t x =>
    have hx := go x (by simp [Op.operands])
    have hg := genOp_local (P := P) (e := e) (e2 := e2) (c := c) (m := m) ⟨dst, .unOp op t x, ty, pos, after, guard⟩ (fun _ _ => by simp) h
    simp only [opD]; unfold unD; split
    · simp only [hx]
    · exact hg
  case convert s t x =>
    have hx := go x (by simp [Op.operands])
    have hg := genOp_local (P := P) (e := e) (e2 := e2) (c := c) (m := m) ⟨dst, .convert s t x, ty, pos, after, guard⟩ (fun _ _ => by simp) h
    simp only [opD]; unfold convertD; split
    · simp only [hx]
    · simp only [hx]
    · split <;> first | rfl | simp only [hx]
    · split <;> first | rfl | simp only [hx]
    · split
      · rw [iff_eq]; split <;> first | rfl | simp only [hx]
      · rfl
    · split <;> first | rfl | simp only [hx]
    · split <;> first | rfl | simp only [hx]
    · exact hg
  case makeFunc fn a b =>
    have ha : ∀ y ∈ a.toList, Alike P e e2 y := fun y hy => go y (by simp [Op.operands]; exact .inl (by simpa using hy))
    have hb : ∀ y ∈ b.toList, Alike P e e2 y := fun y hy => go y (by simp [Op.operands]; exact .inr (by simpa using hy))
    simp only [opD]; unfold makeFuncD; split
    · show (ptrs P a.toList).f e _ = (ptrs P a.toList).f e2 _
      rw [ptrs_local _ ha]
      simp only [ptrs_local _ hb]
    · rfl
  case makeMap t r =>
    simp only [opD]; unfold makeMapD; split
    · rfl
    · rename_i x
      have hx := go x (by simp [Op.operands])
      split <;> first | rfl | simp only [hx]
  case makeSlice t x y =>
    have hx := go x (by simp [Op.operands]); have hy := go y (by simp [Op.operands])
    simp only [opD]; unfold makeSliceD; split
    · split
      · unfold makeSliceL; rw [iff_eq]; split <;> first | rfl | simp only [hx, hy]
      · rfl
    · rfl
  case slice t x lo hi mx =>
    have hx := go x (by simp [Op.operands])
    have hlo : ∀ y ∈ lo.toList, Alike P e e2 y := fun y hy => go y (by simp [Op.operands] at hy ⊢; simp [hy])
    have hhi : ∀ y ∈ hi.toList, Alike P e e2 y := fun y hy => go y (by simp [Op.operands] at hy ⊢; simp [hy])
    have hmx : ∀ y ∈ mx.toList, Alike P e e2 y := fun y hy => go y (by simp [Op.operands] at hy ⊢; simp [hy])
    simp only [opD]; unfold sliceD; rw [iff_eq]; split
    · rfl
    · split
      · split
        · simp only [hx]; unfold slStr; split <;> first | rfl | simp only [bound_local hlo, bound_local hhi]
        · rfl
      · split
        · simp only [hx]; unfold slSlc; split <;> first | rfl | simp only [isCapOf_local hmx, bound_local hlo, bound_local hhi, bound_local hmx] | simp only [bound_local hlo, bound_local hhi, bound_local hmx] | (split <;> first | rfl | simp only [bound_local hlo, bound_local hhi])
        · rfl
      · split
        · simp only [hx]; unfold slArr; split <;> first | rfl | simp only [bound_local hlo, bound_local hhi, bound_local hmx]
        · rfl
      · rfl
  case fieldAddr t x f =>
    have hx := go x (by simp [Op.operands])
    simp only [opD]; unfold fieldAddrD; split
    · split
      · unfold fieldAddrF; split <;> first | rfl | simp only [hx]
      · rfl
    · rfl
  case field t x f =>
    have hx := go x (by simp [Op.operands])
    simp only [opD]; unfold fieldD; split
    · split
      · unfold fieldF; split
        · rw [iff_eq]; split <;> first | rfl | simp only [hx]
        · rfl
      · rfl
    · rfl
  case indexAddr t x i =>
    have hx := go x (by simp [Op.operands]); have hy := go i (by simp [Op.operands])
    simp only [opD]; unfold indexAddrD; split
    · split <;> first | rfl | simp only [hx, hy]
    · split <;> first | rfl | simp only [hx, hy]
    · rfl
  case index t x i =>
    have hx := go x (by simp [Op.operands]); have hy := go i (by simp [Op.operands])
    simp only [opD]; unfold indexD; split
    · simp only [hx, hy]
    · split
      · rw [iff_eq]; split <;> first | rfl | simp only [hx, hy]
      · rfl
    · rfl
  case lookup t x i ok =>
    have hx := go x (by simp [Op.operands]); have hy := go i (by simp [Op.operands])
    simp only [opD]; unfold lookupD; split
    · split <;> first | rfl | simp only [hx, hy]
    · rfl
  case mapUpdate t x i y =>
    have hx := go x (by simp [Op.operands]); have hy := go y (by simp [Op.operands]); have hi := go i (by simp [Op.operands])
    simp only [opD]; unfold mapUpdateD; split <;> first | rfl | simp only [hx, hy, hi]
  case insert t x i y =>
    have hx := go x (by simp [Op.operands]); have hy := go y (by simp [Op.operands]); have hi := go i (by simp [Op.operands])
    simp only [opD]; unfold mapUpdateD; split <;> first | rfl | simp only [hx, hy, hi]
  case extract x i => have hx := go x (by simp [Op.operands]); simp only [opD, extractD, hx]
  case call cl =>
    have ha : ∀ y ∈ cl.args.toList, Alike P e e2 y := fun y hy => go y (by simp [Op.operands, Call.operands]; exact .inr (by simpa using hy))
    simp only [opD]
    split
    · rename_i f hf
      exact callD_local (go f (by simp [Op.operands, Call.operands, hf])) ha
    · exact builtinD_local (fun _ _ => by simp) h ha
    · rfl
  all_goals rfl

end Go.CE
end WU

/- All code. No program is named. -/
noncomputable section WV
namespace Go.CE
open Go

variable {P : Program}

theorem den_okL (hdraw : ∀ (id : Nat) (ops : Array Oper) (N D : Nat), CodeOK P (.region id ops true) N (den P N (.region id ops true) (D := D)).run) :
    ∀ (c : Code) (N D : Nat), CodeOK P c N (den P N c (D := D)).run ∧ LabOK P c N (den P N c (D := D)).lab
  | .skip, _N, _D => ⟨skip_ok, noLab_ok fun _l => rfl⟩
  | .region id ops false, N, _D => ⟨region_ok id ops N, noLab_ok fun _l => rfl⟩
  | .region id ops true, N, D => ⟨hdraw id ops N D, noLab_ok fun _l => rfl⟩
  | .seq a b, N, D => ⟨seq_ok (den_okL hdraw a N D).1 (den_okL hdraw b N D).1, seqLab_ok (den_okL hdraw a N D).2 (den_okL hdraw b N D).2 (den_okL hdraw b N D).1⟩
  | .cond _x a b, N, D => ⟨cond_ok (den_okL hdraw a N D).1 (den_okL hdraw b N D).1, noLab_ok fun _l => rfl⟩
  | .block _id b, N, D => ⟨block_ok (den_okL hdraw b N D).1, noLab_ok fun _l => rfl⟩
  | .loop b, N, D => ⟨loop_ok (den_okL hdraw b N D).1, noLab_ok fun _l => rfl⟩
  | .rangeFunc _f _ps _as _bd, _N, _D => ⟨range_ok, noLab_ok fun _l => rfl⟩
  | .exit _id, _N, _D => ⟨exit_ok, noLab_ok fun _l => rfl⟩
  | .scope b, N, D => ⟨scope_ok (den_okL hdraw b N D).1 (den_okL hdraw b N D).2, noLab_ok fun _l => rfl⟩
  | .label _l, _N, _D => ⟨label_ok, labelLab_ok⟩
  | .goto _l, _N, _D => ⟨goto_ok, noLab_ok fun _l => rfl⟩
  | .ret, _N, _D => ⟨ret_ok, noLab_ok fun _l => rfl⟩
  | .refuse _w, _N, _D => ⟨fail_ok, noLab_ok fun _l => rfl⟩

end Go.CE
end WV
