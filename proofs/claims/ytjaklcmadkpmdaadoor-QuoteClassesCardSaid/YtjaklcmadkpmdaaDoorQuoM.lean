/- The reader: what its small methods do. -/
import Derived.Test.YtjaklcmadkpmdaaDoorQuoS
import Derived.Test.YtjaklcmadkpmdaaDoorSetR
import Derived.Shelf.Abstract
import Derived.IntWalk
import Derived.Deep.RegionWith
import Derived.Deep.RegionHeld3
import Derived.Deep.QuietTactic
import Derived.BigQuiet
import Derived.Test.YtjaklcmadkpmdaaDoorCeAE
section
namespace Go.Proofs.YtjaklcmadkpmdaaDoor
open Go Go.RowKit Go.Shelf
set_option linter.unusedSimpArgs false
set_option linter.unusedVariables false

/-- A reader: its text, what stands bare for something else, the map, the place, what is wrong. -/
structure Rd where
  text : ByteArray
  bare : ByteArray
  mp : Value
  at' : Nat
  e : Nat

def RdAt (W : World) (b : Nat) (r : Rd) : Prop := W.heap[b]? = some (.cells #[.string r.text, .string r.bare, r.mp, .int .i64 r.at', .int .i64 r.e] 63 (0, 0))
theorem RdAt.lt {W : World} {b : Nat} {r : Rd} (h : RdAt W b r) : b < W.heap.size := lt_of_block h
theorem RdAt.cells {W : World} {b : Nat} {r : Rd} (h : RdAt W b r) : W.cell? ⟨b, 0, none⟩ = some (.string r.text) ∧ W.cell? ⟨b, 1, none⟩ = some (.string r.bare) ∧ W.cell? ⟨b, 2, none⟩ = some r.mp ∧ W.cell? ⟨b, 3, none⟩ = some (.int .i64 r.at') ∧ W.cell? ⟨b, 4, none⟩ = some (.int .i64 r.e) := by
  unfold RdAt at h
  simp [World.cell?, h]
theorem RdAt.free {W : World} {b : Nat} {r : Rd} (h : RdAt W b r) : W.frozen? ⟨b, 3, none⟩ = false ∧ W.frozen? ⟨b, 4, none⟩ = false := by
  unfold RdAt at h
  simp [World.frozen?, h]
theorem RdAt.below {B : Nat} {W W' : World} {b : Nat} {r : Rd} (h : RdAt W b r) (hb : Below B W W') (hlt : b < B) : RdAt W' b r := (hb.block b hlt).trans h
theorem RdAt.drew {W : World} {b : Nat} {r : Rd} (h : RdAt W b r) : RdAt W.drew b r := h
theorem RdAt.setAt {W : World} {b : Nat} {r : Rd} (h : RdAt W b r) (n : Nat) : RdAt (W.setCell ⟨b, 3, none⟩ (.int .i64 n)) b { r with at' := n } := set_block h _
theorem RdAt.setE {W : World} {b : Nat} {r : Rd} (h : RdAt W b r) (n : Nat) : RdAt (W.setCell ⟨b, 4, none⟩ (.int .i64 n)) b { r with e := n } := set_block h _

/-- The byte at the place. -/
def Rd.cur (r : Rd) : Option UInt8 := r.text.data[r.at']?
def Rd.next (r : Rd) (c : UInt8) : Bool := r.cur == some c

set_option maxHeartbeats 4000000 in
theorem next_any (W : World) (b : Nat) (r : Rd) (h : RdAt W b r) (c : UInt8) :
    Calls Tryd.prog 32 #[.pointer (some ⟨b, 0, none⟩), .int .u8 c.toNat] W fun e w' => e = .returned (.bool (r.next c)) ∧ Below W.heap.size W w' := by
  obtain ⟨x0, x1, x2, x3, x4⟩ := h.cells
  by_cases hlt : r.at' < r.text.size
  · have hc : r.next c = ((r.text[r.at'].toNat : Int) == (c.toNat : Int)) := by
      have e : r.cur = some r.text[r.at'] := by unfold Rd.cur; exact Array.getElem?_eq_getElem _
      unfold Rd.next
      rw [e, Bool.eq_iff_iff, beq_iff_eq, beq_iff_eq, Option.some.injEq]
      exact ⟨fun h => by rw [h], fun h => UInt8.toNat_inj.1 (by omega)⟩
    rw [hc]
    have hd : decide ((r.at' : Int) < (r.text.size : Int)) = true := by simp; omega
    go_enter Tryd.func32, Tryd.ntmps32
    go_wp2_with fail
    go_region
    all_goals
      go_wp2
      go_ret
      exact ⟨rfl, (Below.refl _ W).drew⟩
  · have hc : r.next c = false := by
      have e : r.cur = none := by unfold Rd.cur; exact Array.getElem?_eq_none (by show r.text.size ≤ _; omega)
      unfold Rd.next; rw [e]; rfl
    rw [hc]
    have hd : decide ((r.at' : Int) < (r.text.size : Int)) = false := by simp; omega
    go_enter Tryd.func32, Tryd.ntmps32
    go_wp2_with fail
    go_region
    all_goals
      go_wp2
      go_ret
      exact ⟨rfl, (Below.refl _ W).drew⟩
end Go.Proofs.YtjaklcmadkpmdaaDoor
end
section
namespace Go.Proofs.YtjaklcmadkpmdaaDoor
open Go Go.RowKit Go.Shelf
set_option linter.unusedSimpArgs false
set_option linter.unusedVariables false

/-- Of what was there, that block alone is another. -/
structure Only (b : Nat) (W W' : World) : Prop where
  os : W'.os = W.os
  tape : W'.tape = W.tape
  output : W'.output = W.output
  size : W.heap.size ≤ W'.heap.size
  block : ∀ k, k < W.heap.size → k ≠ b → W'.heap[k]? = W.heap[k]?
theorem Only.of {b : Nat} {W W' : World} (h : Below W.heap.size W W') : Only b W W' := ⟨h.os, h.tape, h.output, h.size, fun k hk _ => h.block k hk⟩
theorem Only.trans {b : Nat} {W W' W'' : World} (h : Only b W W') (h' : Only b W' W'') : Only b W W'' :=
  ⟨h'.os.trans h.os, h'.tape.trans h.tape, h'.output.trans h.output, Nat.le_trans h.size h'.size, fun k hk hne => (h'.block k (Nat.lt_of_lt_of_le hk h.size) hne).trans (h.block k hk hne)⟩
theorem Only.setCell {b : Nat} {W W' : World} (h : Only b W W') (o : Nat) (v : Value) : Only b W (W'.setCell ⟨b, o, none⟩ v) :=
  ⟨h.os, h.tape, h.output, by simpa using h.size, fun k hk hne => (Below.heap_setCell _ _ _ _ hne).trans (h.block k hk hne)⟩
theorem Only.below {b B : Nat} {W W' : World} (h : Only b W W') (hb : B ≤ b) (hB : B ≤ W.heap.size) : Below B W W' :=
  ⟨h.os, h.tape, h.output, h.size, fun k hk => h.block k (Nat.lt_of_lt_of_le hk hB) (by omega)⟩

/-- What is wrong at the place. -/
def Rd.bad (r : Rd) : Rd := { r with e := if r.text.size ≤ r.at' then 8 else 4 }

set_option maxHeartbeats 4000000 in
theorem fault_any (W : World) (b : Nat) (r : Rd) (h : RdAt W b r) :
    Calls Tryd.prog 45 #[.pointer (some ⟨b, 0, none⟩)] W fun e w' => (∃ v, e = .returned v) ∧ RdAt w' b r.bad ∧ Only b W w' := by
  obtain ⟨x0, x1, x2, x3, x4⟩ := h.cells
  obtain ⟨f3, f4⟩ := h.free
  have h4 := h.setE 4
  obtain ⟨y0, y1, y2, y3, y4⟩ := h4.cells
  obtain ⟨g3, g4⟩ := h4.free
  have hO : Only b W W := Only.of (Below.refl _ W)
  by_cases hlt : r.text.size ≤ r.at'
  · have hr : r.bad = { r with e := 8 } := by unfold Rd.bad; rw [if_pos hlt]
    rw [hr]
    have hd : decide ((r.text.size : Int) ≤ (r.at' : Int)) = true := by simp; omega
    go_enter Tryd.func45, Tryd.ntmps45
    go_wp2_with fail
    go_region
    all_goals
      have h5 := h4.drew.setE 8
      go_wp2
      refine bodyPost_end (v := .tuple #[]) (by simp [results, Tryd.results45, go_sem]) rfl ⟨⟨_, rfl⟩, h5, ((hO.setCell 4 _).trans (Only.of (Below.refl _ _).drew)).setCell 4 _⟩
  · have hr : r.bad = { r with e := 4 } := by unfold Rd.bad; rw [if_neg hlt]
    rw [hr]
    have hd : decide ((r.text.size : Int) ≤ (r.at' : Int)) = false := by simp; omega
    go_enter Tryd.func45, Tryd.ntmps45
    go_wp2_with fail
    go_region
    all_goals
      go_wp2
      refine bodyPost_end (v := .tuple #[]) (by simp [results, Tryd.results45, go_sem]) rfl ⟨⟨_, rfl⟩, h4, (hO.setCell 4 _).trans (Only.of (Below.refl _ _).drew)⟩

/-! ### Bytes among others -/

/-- The place of a number in a list, or -1. -/
def placeOf (b : Nat) : List Nat → Int → Int
  | [], _ => -1
  | x :: r, i => if x = b then i else placeOf b r (i + 1)
def hexL : List Nat := [48, 49, 50, 51, 52, 53, 54, 55, 56, 57, 97, 98, 99, 100, 101, 102]
def isNum (o : Option (IntKind × Int)) (z : Int) : Bool := match o with
  | some (.i64, n) => decide (n = z)
  | _ => false
theorem isNum_ok {o : Option (IntKind × Int)} {z : Int} (h : isNum o z = true) : o = some (.i64, z) := by
  unfold isNum at h
  split at h
  · rw [of_decide_eq_true h]
  · cases h
noncomputable def placeRun (l : List Nat) (b : Nat) : Option (IntKind × Int) := CE.intOfR (CE.runArgs Tryd.prog 100000 400 42 [.c (.str l), .c (.int .u8 b)] (CE.obsOf Tryd.prog laidT))
set_option maxRecDepth 1000000 in
theorem places_lit : below (fun b => isNum (placeRun (bareL false) b) (placeOf b (bareL false) 0)) 256 = true := by kernel_rfl
set_option maxRecDepth 1000000 in
theorem places_cls : below (fun b => isNum (placeRun (bareL true) b) (placeOf b (bareL true) 0)) 256 = true := by kernel_rfl
set_option maxRecDepth 1000000 in
theorem places_hex : below (fun b => isNum (placeRun hexL b) (placeOf b hexL 0)) 256 = true := by kernel_rfl

theorem place_of {l : List Nat} (hl : ∀ x ∈ l, x < 256) (hp : below (fun b => isNum (placeRun l b) (placeOf b l 0)) 256 = true) {W0 W : World} (h : Inv W0) (hb : Below W0.heap.size W0 W) (b : Nat) (hlt : b < 256) :
    Calls Tryd.prog 42 #[.string (CE.bytesOf l), .int .u8 b] W fun e W' => e = .returned (.int .i64 (placeOf b l 0)) ∧ Below W.heap.size W W' :=
  CE.call_int_at (args := [.c (.str l), .c (.int .u8 b)]) (vals := [.string (CE.bytesOf l), .int .u8 b]) h.shaped h.laid hb.size hb.block (by kernel_rfl) (.inr (by kernel_rfl)) (fun ρ => ⟨⟨rfl, hl⟩, rfl, trivial⟩) (isNum_ok (below_ok hp b hlt))
theorem place_bare (cls : Bool) {W0 W : World} (h : Inv W0) (hb : Below W0.heap.size W0 W) (b : UInt8) :
    Calls Tryd.prog 42 #[.string (bareB cls), .int .u8 b.toNat] W fun e W' => e = .returned (.int .i64 (placeOf b.toNat (bareL cls) 0)) ∧ Below W.heap.size W W' := by
  cases cls
  · exact place_of (by decide) places_lit h hb b.toNat (UInt8.toNat_lt _)
  · exact place_of (by decide) places_cls h hb b.toNat (UInt8.toNat_lt _)
theorem place_hex {W0 W : World} (h : Inv W0) (hb : Below W0.heap.size W0 W) (b : Nat) (hlt : b < 256) :
    Calls Tryd.prog 42 #[.string ⟨#[48, 49, 50, 51, 52, 53, 54, 55, 56, 57, 97, 98, 99, 100, 101, 102]⟩, .int .u8 b] W fun e W' => e = .returned (.int .i64 (placeOf b hexL 0)) ∧ Below W.heap.size W W' :=
  place_of (l := hexL) (by decide) places_hex h hb b hlt

/-- May a byte stand bare? -/
def plainB (cls : Bool) (b : UInt8) : Bool := decide (32 ≤ (b.toNat : Int)) && (decide ((b.toNat : Int) ≤ 126) && decide (placeOf b.toNat (bareL cls) 0 < 0))

set_option maxHeartbeats 4000000 in
theorem plain_any (cls : Bool) {W0 W : World} (hI : Inv W0) (hb0 : Below W0.heap.size W0 W) (b : Nat) (r : Rd) (h : RdAt W b r) (hr : r.bare = bareB cls) (c : UInt8) :
    Calls Tryd.prog 57 #[.pointer (some ⟨b, 0, none⟩), .int .u8 c.toNat] W fun e w' => e = .returned (.bool (plainB cls c)) ∧ Below W.heap.size W w' := by
  obtain ⟨x0, x1, x2, x3, x4⟩ := h.cells
  rw [hr] at x1
  have HP := Lib.hid (place_bare cls hI hb0 c)
  unfold plainB
  cases h1 : decide (32 ≤ (c.toNat : Int)) <;> cases h2 : decide ((c.toNat : Int) ≤ 126)
  all_goals
    go_enter Tryd.func57, Tryd.ntmps57
    go_wp2_with (go_at_call 42; refine HP.out.mono ?_; rintro e w1 ⟨rfl, hb1⟩)
    go_ret
    first | exact ⟨rfl, hb1⟩ | exact ⟨rfl, Below.refl _ _⟩
end Go.Proofs.YtjaklcmadkpmdaaDoor
end
