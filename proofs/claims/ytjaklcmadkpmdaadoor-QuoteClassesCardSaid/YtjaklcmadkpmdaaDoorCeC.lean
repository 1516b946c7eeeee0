/- What the data that the kernel works out say of the model's memory: a block's number here stands for a block there. No program is named. -/
import Derived.Test.YtjaklcmadkpmdaaDoorCeB
import Derived.Laws.Sem
import Derived.Laws.World
noncomputable section
namespace Go.CE
open Go

theorem ble_iff {a b : Nat} : Nat.ble a b = true ↔ a ≤ b := ⟨Nat.le_of_ble_eq_true, Nat.ble_eq_true_of_le⟩
theorem iff_ble {β : Type} {a b : Nat} (x y : β) : iff (Nat.ble a b) x y = if a ≤ b then x else y := by
  rw [iff_eq]; by_cases h : a ≤ b
  · rw [if_pos h, if_pos (ble_iff.2 h)]
  · rw [if_neg h, if_neg (fun hh => h (ble_iff.1 hh))]

def All2 {α β : Type} (R : α → β → Prop) : List α → List β → Prop
  | [], [] => True
  | a :: l, b :: m => R a b ∧ All2 R l m
  | _, _ => False

theorem All2.length {α β : Type} {R : α → β → Prop} : ∀ {l : List α} {m : List β}, All2 R l m → l.length = m.length
  | [], [], _ => rfl
  | _ :: _, _ :: _, h => by simp [All2.length h.2]
  | [], _ :: _, h => h.elim
  | _ :: _, [], h => h.elim

theorem All2.mono {α β : Type} {R S : α → β → Prop} (hRS : ∀ a b, R a b → S a b) : ∀ {l : List α} {m : List β}, All2 R l m → All2 S l m
  | [], [], _ => trivial
  | _ :: _, _ :: _, h => ⟨hRS _ _ h.1, All2.mono hRS h.2⟩
  | [], _ :: _, h => h.elim
  | _ :: _, [], h => h.elim

theorem All2.get {α β : Type} {R : α → β → Prop} : ∀ {l : List α} {m : List β}, All2 R l m → ∀ (i : Nat) (a : α), l[i]? = some a → ∃ b, m[i]? = some b ∧ R a b
  | [], [], _, i, a, h => by simp at h
  | x :: l, y :: m, h, 0, a, ha => ⟨y, by simp, by simp at ha; subst ha; exact h.1⟩
  | x :: l, y :: m, h, i + 1, a, ha => by
    obtain ⟨b, hb, hr⟩ := All2.get h.2 i a (by simpa using ha)
    exact ⟨b, by simpa using hb, hr⟩
  | [], _ :: _, h, _, _, _ => h.elim
  | _ :: _, [], h, _, _, _ => h.elim

theorem All2.of_get {α β : Type} {R : α → β → Prop} : ∀ {l : List α} {m : List β}, l.length = m.length → (∀ (i : Nat) (a : α) (b : β), l[i]? = some a → m[i]? = some b → R a b) → All2 R l m
  | [], [], _, _ => trivial
  | x :: l, y :: m, hl, h => ⟨h 0 x y rfl rfl, All2.of_get (by simpa using hl) fun i a b ha hb => h (i + 1) a b (by simpa using ha) (by simpa using hb)⟩
  | [], _ :: _, hl, _ => by simp at hl
  | _ :: _, [], hl, _ => by simp at hl

theorem All2.append {α β : Type} {R : α → β → Prop} : ∀ {l : List α} {m : List β} {l' : List α} {m' : List β}, All2 R l m → All2 R l' m' → All2 R (l ++ l') (m ++ m')
  | [], [], _, _, _, h' => h'
  | _ :: _, _ :: _, _, _, h, h' => ⟨h.1, All2.append h.2 h'⟩
  | [], _ :: _, _, _, h, _ => h.elim
  | _ :: _, [], _, _, h, _ => h.elim

theorem All2.map {α β α' β' : Type} {R : α → β → Prop} {S : α' → β' → Prop} (f : α → α') (g : β → β') (h : ∀ a b, R a b → S (f a) (g b)) :
    ∀ {l : List α} {m : List β}, All2 R l m → All2 S (l.map f) (m.map g)
  | [], [], _ => trivial
  | _ :: _, _ :: _, hh => ⟨h _ _ hh.1, All2.map f g h hh.2⟩
  | [], _ :: _, hh => hh.elim
  | _ :: _, [], hh => hh.elim

theorem All2.take {α β : Type} {R : α → β → Prop} : ∀ {l : List α} {m : List β} (n : Nat), All2 R l m → All2 R (l.take n) (m.take n)
  | [], [], n, _ => by cases n <;> trivial
  | _ :: _, _ :: _, 0, _ => trivial
  | _ :: _, _ :: _, n + 1, h => ⟨h.1, All2.take n h.2⟩
  | [], _ :: _, _, h => h.elim
  | _ :: _, [], _, h => h.elim

theorem All2.drop {α β : Type} {R : α → β → Prop} : ∀ {l : List α} {m : List β} (n : Nat), All2 R l m → All2 R (l.drop n) (m.drop n)
  | [], [], n, _ => by cases n <;> trivial
  | _ :: _, _ :: _, 0, h => h
  | _ :: _, _ :: _, n + 1, h => All2.drop n h.2
  | [], _ :: _, _, h => h.elim
  | _ :: _, [], _, h => h.elim

/-! ### Values -/

structure Seg where
  blk : Nat
  base : Nat
  ext : Nat

abbrev Rho := Nat → Option Seg

/-- ρ' knows what ρ knows. -/
def Ext (ρ ρ' : Rho) : Prop := ∀ id s, ρ id = some s → ρ' id = some s

def Cell (v : Value) : Prop := v.oneCell' = true

def PR (ρ : Rho) (p : Nat × Nat) (v : Value) : Prop := ∃ s, ρ p.1 = some s ∧ v = .pointer (some ⟨s.blk, s.base + p.2, none⟩)

def RR (ρ : Rho) : RV → Value → Prop
  | .top, v => Cell v
  | .ptr id off, v => PR ρ (id, off) v
  | .nilp, v => v = .pointer none
  | .slc id off len cap, v => ∃ s, ρ id = some s ∧ v = .slice (some ⟨s.blk, s.base + off, none⟩) len (cap + s.ext)
  | .nils, v => v = .slice none 0 0
  | .emp, v => ∃ a c, v = .slice (some a) 0 c
  | .capv id cap, v => ∃ s, ρ id = some s ∧ v = .int .i64 (Int.ofNat (cap + s.ext))
  | .map id, v => ∃ s, ρ id = some s ∧ v = .map (some s.blk)
  | .nilm, v => v = .map none
  | .fn f first caps, v => ∃ a b : Array Value, v = .func (.func f) a b ∧ All2 (PR ρ) first a.toList ∧ All2 (PR ρ) caps b.toList
  | .yld id, v => ∃ s, ρ id = some s ∧ v = .func (.yield s.blk) #[] #[]
  | .nilf, v => v = .nilFunc
  | .nili, v => v = .nilIface
  | .flt k b, v => v = .float k b
  | .cpx k x y, v => v = .complex k x y
  | .slx id off len cap, v => ∃ s, ρ id = some s ∧ v = .slice (some ⟨s.blk, s.base + off, none⟩) len cap
  | .emx, v => ∃ a, v = .slice (some a) 0 0

def CR (ρ : Rho) : CV → Value → Prop
  | .int k n, v => v = .int k n
  | .bool b, v => v = .bool b
  | .str s, v => v = strV s ∧ ∀ c ∈ s, c < 256
  | .ref r, v => RR ρ r v

def TR (ρ : Rho) : TV → Value → Prop
  | .c v, x => CR ρ v x
  | .agg l, x => ∃ vs : Array Value, x = .agg vs ∧ All2 (CR ρ) l vs.toList

def AR (ρ : Rho) : AV → Value → Prop
  | .c v, x => CR ρ v x
  | .agg l, x => ∃ vs : Array Value, x = .agg vs ∧ All2 (CR ρ) l vs.toList
  | .tup l, x => ∃ vs : Array Value, x = .tuple vs ∧ All2 (TR ρ) l vs.toList
  | .top, _ => True

theorem PR.mono {ρ ρ' : Rho} (h : Ext ρ ρ') {p : Nat × Nat} {v : Value} (hp : PR ρ p v) : PR ρ' p v := by
  obtain ⟨s, hs, hv⟩ := hp
  exact ⟨s, h _ _ hs, hv⟩

theorem RR.mono {ρ ρ' : Rho} (h : Ext ρ ρ') {r : RV} {v : Value} (hr : RR ρ r v) : RR ρ' r v := by
  cases r with
  | ptr id off => exact PR.mono h hr
  | slc id off len cap => obtain ⟨s, hs, hv⟩ := hr; exact ⟨s, h _ _ hs, hv⟩
  | slx id off len cap => obtain ⟨s, hs, hv⟩ := hr; exact ⟨s, h _ _ hs, hv⟩
  | map id => obtain ⟨s, hs, hv⟩ := hr; exact ⟨s, h _ _ hs, hv⟩
  | capv id cap => obtain ⟨s, hs, hv⟩ := hr; exact ⟨s, h _ _ hs, hv⟩
  | yld id => obtain ⟨s, hs, hv⟩ := hr; exact ⟨s, h _ _ hs, hv⟩
  | fn f a b =>
    obtain ⟨x, y, hv, hx, hy⟩ := hr
    exact ⟨x, y, hv, All2.mono (fun _ _ => PR.mono h) hx, All2.mono (fun _ _ => PR.mono h) hy⟩
  | _ => exact hr

theorem CR.mono {ρ ρ' : Rho} (h : Ext ρ ρ') {c : CV} {v : Value} (hc : CR ρ c v) : CR ρ' c v := by
  cases c with
  | ref r => exact RR.mono h hc
  | _ => exact hc

theorem TR.mono {ρ ρ' : Rho} (h : Ext ρ ρ') {c : TV} {v : Value} (hc : TR ρ c v) : TR ρ' c v := by
  cases c with
  | c v => exact CR.mono h hc
  | agg l => obtain ⟨vs, hv, ha⟩ := hc; exact ⟨vs, hv, All2.mono (fun _ _ => CR.mono h) ha⟩

theorem AR.mono {ρ ρ' : Rho} (h : Ext ρ ρ') {c : AV} {v : Value} (hc : AR ρ c v) : AR ρ' c v := by
  cases c with
  | c v => exact CR.mono h hc
  | agg l => obtain ⟨vs, hv, ha⟩ := hc; exact ⟨vs, hv, All2.mono (fun _ _ => CR.mono h) ha⟩
  | tup l => obtain ⟨vs, hv, ha⟩ := hc; exact ⟨vs, hv, All2.mono (fun _ _ => TR.mono h) ha⟩
  | top => trivial

theorem CR.cell {ρ : Rho} {c : CV} {v : Value} (h : CR ρ c v) : Cell v := by
  cases c with
  | int k n => cases h; rfl
  | bool b => cases h; rfl
  | str s => obtain ⟨h, _⟩ := h; subst h; rfl
  | ref r =>
    cases r with
    | top => exact h
    | ptr id off => obtain ⟨s, _, hv⟩ := h; subst hv; rfl
    | slc id off len cap => obtain ⟨s, _, hv⟩ := h; subst hv; rfl
    | slx id off len cap => obtain ⟨s, _, hv⟩ := h; subst hv; rfl
    | map id => obtain ⟨s, _, hv⟩ := h; subst hv; rfl
    | yld id => obtain ⟨s, _, hv⟩ := h; subst hv; rfl
    | fn f a b => obtain ⟨x, y, hv, _⟩ := h; subst hv; rfl
    | nilp => cases h; rfl
    | nils => cases h; rfl
    | emp => obtain ⟨a, c, hv⟩ := h; subst hv; rfl
    | emx => obtain ⟨a, hv⟩ := h; subst hv; rfl
    | capv id cap => obtain ⟨s, _, hv⟩ := h; subst hv; rfl
    | nilm => cases h; rfl
    | nilf => cases h; rfl
    | nili => cases h; rfl
    | flt k b => cases h; rfl
    | cpx k x y => cases h; rfl

theorem AR.undef (ρ : Rho) : AR ρ undefA undef := ⟨#[], rfl, trivial⟩

theorem TR.av {ρ : Rho} {t : TV} {x : Value} (h : TR ρ t x) : AR ρ (avOf t) x := by
  cases t <;> exact h

/-- The cells of a value. -/
theorem AR.cells_c {ρ : Rho} {v : CV} {x : Value} (h : CR ρ v x) : x.cells = #[x] := by
  have := CR.cell h
  cases x <;> first | rfl | (simp [Cell, Value.oneCell'] at this)

/-! ### Temporaries -/

structure ENV (ρ : Rho) (N D : Nat) (e : NT D AV) (t : Array Value) : Prop where
  size : t.size = N
  cap : N ≤ capN D
  get : ∀ i, i < capN D → AR ρ ((getN D i).f e) (t.getD i undef)

theorem ENV.mono {ρ ρ' : Rho} (h : Ext ρ ρ') {N D : Nat} {e : NT D AV} {t : Array Value} (he : ENV ρ N D e t) : ENV ρ' N D e t :=
  ⟨he.size, he.cap, fun i hi => AR.mono h (he.get i hi)⟩

theorem ENV.put {ρ : Rho} {N D : Nat} {e : NT D AV} {a : Act} (he : ENV ρ N D e a.tmps) {v : AV} {x : Value} (hv : AR ρ v x) (dst : Option Tmp) {β : Type} (k : NT D AV → β) :
    ∃ e', (putD N dst).f e v k = k e' ∧ ENV ρ N D e' (a.put dst x).tmps := by
  cases dst with
  | none => exact ⟨e, rfl, he⟩
  | some d =>
    unfold putD
    simp only [iff_ble]
    by_cases hd : d < N
    · rw [if_pos (Nat.succ_le_of_lt hd), setN_eq]
      refine ⟨_, rfl, ?_, he.cap, fun i hi => ?_⟩
      · simp [Act.put, he.size]
      · rw [get_upd D d i e v (Nat.lt_of_lt_of_le hd he.cap) hi]
        simp only [Act.put]
        by_cases hid : i = d
        · subst hid
          rw [if_pos rfl, Array.getD_eq_getD_getElem?, Array.getElem?_setIfInBounds_self]
          rw [if_pos (by rw [he.size]; exact hd)]
          exact hv
        · rw [if_neg hid, Array.getD_eq_getD_getElem?, Array.getElem?_setIfInBounds_ne (Ne.symm hid)]
          have := he.get i hi
          rwa [Array.getD_eq_getD_getElem?] at this
    · rw [if_neg (fun h => hd (Nat.lt_of_succ_le h))]
      refine ⟨e, rfl, ?_⟩
      have hsame : (a.tmps.setIfInBounds d x) = a.tmps := Array.setIfInBounds_eq_of_size_le (by rw [he.size]; exact Nat.le_of_not_lt hd)
      show ENV ρ N D e (a.tmps.setIfInBounds d x)
      rw [hsame]; exact he

/-! ### Objects -/

def jmpCode : Jmp → Code
  | .exit id => .exit id
  | .goto l => .goto l
  | .ret => .ret

/-- A cell of a piece. -/
def pieceAt (p : TV) (j : Nat) : CV :=
  match p with
  | .c v => v
  | .agg l => l.getD j (.ref .top)

/-- A row's cell. -/
def cellAt (sz d : Nat) (t : NT d TV) (i : Nat) : CV := pieceAt ((getN d (i / sz)).f t) (i % sz)

/-- Pieces are whole. -/
def PieceOk (sz : Nat) : TV → Prop
  | .c _ => sz = 1
  | .agg l => l.length = sz ∧ sz ≠ 1

structure ERel (ρ : Rho) (x : MapE) (y : MapEntry) : Prop where
  key : TR ρ x.key y.key
  val : TR ρ x.val y.val
  born : y.born = x.born

theorem ERel.mono {ρ ρ' : Rho} (h : Ext ρ ρ') {x : MapE} {y : MapEntry} (hx : ERel ρ x y) : ERel ρ' x y := ⟨TR.mono h hx.key, TR.mono h hx.val, hx.born⟩

structure RowR (ρ : Rho) (s : Seg) (n sz : Nat) (opn : Bool) (fz d : Nat) (t : NT d TV) (c : Array Value) (fr : Nat × Nat) : Prop where
  cell : ∀ i, i < n → ∃ x, c[s.base + i]? = some x ∧ CR ρ (cellAt sz d t i) x
  whole : ∀ q, q * sz < n → PieceOk sz ((getN d q).f t)
  lev : ∀ q, q * sz < n → q < capN d
  mult : n % sz = 0
  room : s.base + n + s.ext * sz ≤ c.size
  shut : opn = false → s.ext = 0 ∧ s.base = 0 ∧ c.size = n
  free : ∀ i, fz / 2 ≤ i → i < n + s.ext * sz → (decide (fr.1 ≤ s.base + i) && decide (s.base + i < fr.2)) = false
  plain : fz % 2 = 1 → s.base = 0 ∧ (fr.1 = fr.2 ∨ fr.2 ≤ fz / 2)
  high : fz = 0 → fr.1 = fr.2 ∨ c.size ≤ fr.1

theorem RowR.mono {ρ ρ' : Rho} (h : Ext ρ ρ') {s : Seg} {n sz : Nat} {opn : Bool} {fz d : Nat} {t : NT d TV} {c : Array Value} {fr : Nat × Nat} (hr : RowR ρ s n sz opn fz d t c fr) :
    RowR ρ' s n sz opn fz d t c fr :=
  ⟨fun i hi => let ⟨x, hx, hc⟩ := hr.cell i hi; ⟨x, hx, CR.mono h hc⟩, hr.whole, hr.lev, hr.mult, hr.room, hr.shut, hr.free, hr.plain, hr.high⟩

def OR (ρ : Rho) (s : Seg) : Ob → Option Obj → Prop
  | .dead, _ => True
  | .row el n sz opn fz d t, o => ∃ c fr, o = some (.cells c el fr) ∧ RowR ρ s n sz opn fz d t c fr
  | .mp es clock, o => ∃ ents : Array MapEntry, o = some (.map ents clock) ∧ All2 (ERel ρ) es ents.toList
  | .lp st pd N D e ps as bd dfr, o => ∃ fn tmps sd, o = some (.loop { state := st, pending := pd.map jmpCode, fn, tmps, params := ps.toArray, assign := as, body := bd, defers := sd.blk }) ∧
      ρ dfr = some sd ∧ ENV ρ N D e tmps
  | .dfr, o => o = some (.deferred (some []))

theorem OR.mono {ρ ρ' : Rho} (h : Ext ρ ρ') {s : Seg} {ob : Ob} {o : Option Obj} (ho : OR ρ s ob o) : OR ρ' s ob o := by
  cases ob with
  | dead => trivial
  | row el n sz opn fz d t => obtain ⟨c, fr, h1, h2⟩ := ho; exact ⟨c, fr, h1, h2.mono h⟩
  | mp es clock => obtain ⟨ents, h1, h2⟩ := ho; exact ⟨ents, h1, All2.mono (fun _ _ => ERel.mono h) h2⟩
  | lp st pd N D e ps as bd dfr => obtain ⟨fn, tmps, sd, h1, h2, h3⟩ := ho; exact ⟨fn, tmps, sd, h1, h _ _ h2, h3.mono h⟩
  | dfr => exact ho

/-! ### Memory -/

def obj (H : NT hd Ob) (id : Nat) : Ob := (getN hd id).f H

def Live (H : NT hd Ob) (id : Nat) : Prop := obj H id ≠ .dead

theorem obj_upd {H : NT hd Ob} {i j : Nat} {x : Ob} (hi : i < capN hd) (hj : j < capN hd) : obj (updN hd i H x) j = if j = i then x else obj H j := get_upd hd i j H x hi hj

section
variable (P : Program)

/-- ρ and H as said of a world; of what lies in A, and of the variables at package level. From block B0 on all is the run's own. -/
structure Rel (B0 : Nat) (A : Nat → Prop) (ρ : Rho) (H : NT hd Ob) (w : World) : Prop where
  gb : glb P ≤ B0
  b0 : B0 ≤ w.heap.size
  cap : ∀ id s, ρ id = some s → id < capN hd
  lt : ∀ id s, ρ id = some s → s.blk < w.heap.size
  glob : ∀ g, g < glb P → ρ g = some ⟨g, 0, 0⟩
  own : ∀ id s, ρ id = some s → glb P ≤ id → B0 ≤ s.blk
  inj : ∀ id id' s s', A id → A id' → glb P ≤ id → glb P ≤ id' → ρ id = some s → ρ id' = some s' → Live H id → Live H id' → s.blk = s'.blk → id = id'
  rows : ∀ id s, ρ id = some s → (A id ∨ id < glb P) → OR ρ s (obj H id) w.heap[s.blk]?

/-- What lies from the next number on is not there yet. -/
structure WF (m : M) : Prop where
  gnx : glb P ≤ m.nx
  cap : m.nx ≤ capN hd
  dead : ∀ id, m.nx ≤ id → id < capN hd → obj m.H id = .dead

/-- What a run has done. W: what it may have turned of what was there. -/
structure Post (B0 : Nat) (A W : Nat → Prop) (ρ : Rho) (m : M) (w : World) (ρ' : Rho) (m' : M) (w' : World) : Prop where
  ext : Ext ρ ρ'
  dom : ∀ id s, ρ' id = some s → ρ id = some s ∨ (m.nx ≤ id ∧ id < m'.nx)
  nx : m.nx ≤ m'.nx
  wf : WF P m'
  rel : Rel P B0 A ρ' m'.H w'
  size : w.heap.size ≤ w'.heap.size
  frame : ∀ b, b < w.heap.size → (∀ id s, ρ id = some s → glb P ≤ id → W id → Live m.H id → s.blk ≠ b) → w'.heap[b]? = w.heap[b]?
  newb : ∀ id s, ρ' id = some s → ρ id = none → w.heap.size ≤ s.blk ∨ ∃ id0 s0, ρ id0 = some s0 ∧ glb P ≤ id0 ∧ W id0 ∧ Live m.H id0 ∧ s0.blk = s.blk
  keep : ∀ id, id < m.nx → ¬ W id → obj m'.H id = obj m.H id
  dead : ∀ id, id < m.nx → obj m.H id = .dead → obj m'.H id = .dead
  keep0 : ∀ id, id < m.nx → (ρ id = none ∨ id < glb P) → obj m'.H id = obj m.H id
  tape : w'.tape = w.tape
  os : w'.os = w.os
  out : w'.output = w.output

/-- What is looked at, and what is new, lies in A. -/
def In (A : Nat → Prop) (m m' : M) : Prop := ∀ id, (m'.rm ≤ id ∨ m.nx ≤ id) → A id

def Fresh (ρ : Rho) (m m' : M) : Prop := ∀ id, m.nx ≤ id → id < m'.nx → ρ id = none

end

variable {P : Program} {B0 : Nat} {A W W' : Nat → Prop} {ρ ρ' ρ'' : Rho} {m m' m'' : M} {w w' w'' : World}

theorem Post.refl (hw : WF P m) (h : Rel P B0 A ρ m.H w) : Post P B0 A W ρ m w ρ m w :=
  ⟨fun _ _ h => h, fun _ _ h => .inl h, Nat.le_refl _, hw, h, Nat.le_refl _, fun _ _ _ => rfl, fun _ _ h1 h2 => absurd (h1.symm.trans h2) (by simp), fun _ _ _ => rfl, fun _ _ h => h, fun _ _ _ => rfl, rfl, rfl, rfl⟩

theorem Post.more (hW : ∀ id, W id → W' id) (h : Post P B0 A W ρ m w ρ' m' w') : Post P B0 A W' ρ m w ρ' m' w' :=
  ⟨h.ext, h.dom, h.nx, h.wf, h.rel, h.size, fun b hb hf => h.frame b hb fun id s h1 h2 h3 h4 => hf id s h1 h2 (hW id h3) h4,
   fun id s h1 h2 => (h.newb id s h1 h2).imp (fun x => x) fun ⟨i, s0, a, b, c, d, e⟩ => ⟨i, s0, a, b, hW i c, d, e⟩, fun id hid hn => h.keep id hid fun hh => hn (hW id hh), h.dead, h.keep0, h.tape, h.os, h.out⟩

theorem Post.trans (h1 : Post P B0 A W ρ m w ρ' m' w') (h2 : Post P B0 A W ρ' m' w' ρ'' m'' w'') (hf : Fresh ρ m m'') : Post P B0 A W ρ m w ρ'' m'' w'' where
  ext := fun id s h => h2.ext id s (h1.ext id s h)
  dom := fun id s h => by
    rcases h2.dom id s h with h | h
    · rcases h1.dom id s h with h | h
      · exact .inl h
      · exact .inr ⟨h.1, Nat.lt_of_lt_of_le h.2 h2.nx⟩
    · exact .inr ⟨Nat.le_trans h1.nx h.1, h.2⟩
  nx := Nat.le_trans h1.nx h2.nx
  wf := h2.wf
  rel := h2.rel
  size := Nat.le_trans h1.size h2.size
  frame := fun b hb hn => by
    rw [h2.frame b (Nat.lt_of_lt_of_le hb h1.size) ?_, h1.frame b hb hn]
    intro id s hs hg hW hL e
    cases h0 : ρ id with
    | some s0 =>
      have := h1.ext id s0 h0
      rw [this] at hs; cases hs
      refine hn id s h0 hg hW (fun hd => hL ?_) e
      by_cases hid : id < m.nx
      · exact h1.dead id hid hd
      · -- what was known ahead of its time is not there
        rcases Nat.lt_or_ge id m''.nx with hlt | hge
        · rw [hf id (by omega) hlt] at h0; cases h0
        · exact h1.wf.dead id (Nat.le_trans h2.nx hge) (h1.rel.cap id s this)
    | none =>
      rcases h1.newb id s hs h0 with h | ⟨id0, s0, a, b', c, d, e'⟩
      · omega
      · exact hn id0 s0 a b' c d (e'.trans e)
  newb := fun id s hs h0 => by
    cases h1' : ρ' id with
    | some s1 =>
      have := h2.ext id s1 h1'
      rw [this] at hs; cases hs
      exact h1.newb id s h1' h0
    | none =>
      rcases h2.newb id s hs h1' with h | ⟨id0, s0, a, b, c, d, e⟩
      · exact .inl (Nat.le_trans h1.size h)
      · cases h00 : ρ id0 with
        | some s00 =>
          have := h1.ext id0 s00 h00
          rw [this] at a; cases a
          refine .inr ⟨id0, s0, h00, b, c, fun hd => d ?_, e⟩
          by_cases hid : id0 < m.nx
          · exact h1.dead id0 hid hd
          · rcases Nat.lt_or_ge id0 m''.nx with hlt | hge
            · rw [hf id0 (by omega) hlt] at h00; cases h00
            · exact h1.wf.dead id0 (Nat.le_trans h2.nx hge) (h1.rel.cap id0 s0 this)
        | none =>
          rcases h1.newb id0 s0 a h00 with h | ⟨i, si, p, q, r, t, u⟩
          · exact .inl (by rw [← e]; exact h)
          · exact .inr ⟨i, si, p, q, r, t, u.trans e⟩
  keep := fun id hid hn => by rw [h2.keep id (Nat.lt_of_lt_of_le hid h1.nx) hn, h1.keep id hid hn]
  dead := fun id hid hd => h2.dead id (Nat.lt_of_lt_of_le hid h1.nx) (h1.dead id hid hd)
  keep0 := fun id hid hc => by
    rw [h2.keep0 id (Nat.lt_of_lt_of_le hid h1.nx) ?_, h1.keep0 id hid hc]
    rcases hc with hc | hc
    · left
      cases h0 : ρ' id with
      | none => rfl
      | some s =>
        rcases h1.dom id s h0 with h | h
        · rw [hc] at h; cases h
        · omega
    · exact .inr hc
  tape := h2.tape.trans h1.tape
  os := h2.os.trans h1.os
  out := h2.out.trans h1.out

/-- The marks do not matter. -/
theorem Post.marks (h : Post P B0 A W ρ m w ρ' m' w') {n n' : M} (h1 : n.H = m.H) (h2 : n.nx = m.nx) (h3 : n'.H = m'.H) (h4 : n'.nx = m'.nx) : Post P B0 A W ρ n w ρ' n' w' := by
  obtain ⟨nH, nn, _, _, _⟩ := n
  obtain ⟨nH', nn', _, _, _⟩ := n'
  cases h1; cases h2; cases h3; cases h4
  exact ⟨h.ext, h.dom, h.nx, ⟨h.wf.gnx, h.wf.cap, h.wf.dead⟩, h.rel, h.size, h.frame, h.newb, h.keep, h.dead, h.keep0, h.tape, h.os, h.out⟩

/-- A draw changes nothing that is said of. -/
theorem Rel.drew (h : Rel P B0 A ρ m.H w) : Rel P B0 A ρ m.H w.drew := ⟨h.gb, h.b0, h.cap, h.lt, h.glob, h.own, h.inj, h.rows⟩

theorem Post.drew_l (h : Post P B0 A W ρ m w.drew ρ' m' w') : Post P B0 A W ρ m w ρ' m' w' :=
  ⟨h.ext, h.dom, h.nx, h.wf, h.rel, h.size, h.frame, h.newb, h.keep, h.dead, h.keep0, h.tape, h.os, h.out⟩

theorem Post.drew_r (h : Post P B0 A W ρ m w ρ' m' w') : Post P B0 A W ρ m w ρ' m' w'.drew :=
  ⟨h.ext, h.dom, h.nx, h.wf, h.rel.drew, h.size, h.frame, h.newb, h.keep, h.dead, h.keep0, h.tape, h.os, h.out⟩

end Go.CE
