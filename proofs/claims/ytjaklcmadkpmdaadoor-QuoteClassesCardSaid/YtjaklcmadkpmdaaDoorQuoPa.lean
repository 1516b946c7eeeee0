/- A call with plain arguments that tells a truth value: in whatever world lies over the first. -/
import Derived.Test.YtjaklcmadkpmdaaDoorCeAE
import Derived.Test.YtjaklcmadkpmdaaDoorQuoY
import Derived.LoopTactic
import Derived.Test.YtjaklcmadkpmdaaDoorQuoSb
import Derived.Test.YtjaklcmadkpmdaaDoorQuoF
import Derived.Shelf.Abstract
import Derived.Test.YtjaklcmadkpmdaaDoorSetM
import Derived.WalkKit
import Derived.WalkSpells
import Derived.WalkLawsBesides
import Derived.Laws.BitsAllLaws
import Derived.Lib.Hide
import Derived.RegionTactic
import Derived.OneCell
import Derived.ChangeAlike
import Derived.Deep.QuietTactic
import Derived.BigQuiet
import Derived.IntWalk
section
noncomputable section
namespace Go.CE
open Go Go.RowKit

/-- The truth value that a call tells. -/
def boolOfR (r : RO) : Option Bool :=
  match r with
  | .ok (.c (.bool v)) _ => some v
  | _ => none

theorem boolOfR_ok {r : RO} {v : Bool} (h : boolOfR r = some v) : ∃ m, r = .ok (.c (.bool v)) m := by
  unfold boolOfR at h
  split at h
  · cases h; exact ⟨_, rfl⟩
  · cases h

/-- A call with plain arguments, behind whatever left what was there as it was. -/
theorem call_bool_at {P : Program} {laid : List (String × DataW Unit)} {W0 W : World} (hS : W0.ShapedOpen P) (hL : laidMet P laid W0) (hle : W0.heap.size ≤ W.heap.size) (hsame : ∀ b, b < W0.heap.size → W.heap[b]? = W0.heap[b]?) (hcap : Nat.ble (glb P) (capN hd) = true) (hlast : glb P = 0 ∨ (tyAt P (glb P - 1)).isSome = true) {lf n f : Nat}
    {args : List AV} {vals : List Value} (hargs : ∀ ρ, All2 (AR ρ) args vals) {v : Bool}
    (h : boolOfR (runArgs P lf n f args (obsOf P laid)) = some v) : Calls P f vals.toArray W fun e W' => e = .returned (.bool v) ∧ Below W.heap.size W W' := by
  have hcap := ble_iff.1 hcap
  have hsz0 : glb P ≤ W0.heap.size := by
    rcases hlast with h0 | h0
    · omega
    · rcases Nat.eq_zero_or_pos (glb P) with h1 | h1
      · omega
      · unfold tyAt at h0
        cases hr : ((begin P (fun _ _ => 0) default).world.heap[glb P - 1]?).bind Obj.row? with
        | none => rw [hr] at h0; cases h0
        | some q =>
          obtain ⟨zero, el⟩ := q
          obtain ⟨cs', hcs, _, _⟩ := hS.1 (glb P - 1) zero el (show glb P - 1 < P.globals.size by unfold glb at *; omega) hr
          have := (Array.getElem?_eq_some_iff.1 hcs).1
          omega
  have hsz : glb P ≤ W.heap.size := Nat.le_trans hsz0 hle
  obtain ⟨m', hr⟩ := boolOfR_ok h
  unfold runArgs at hr
  obtain ⟨H, h1, h2⟩ := bld_ok Ob.dead hd (obsOf P laid) (fun H _ => (lowN P lf n).call f args ⟨H, glb P, inf, inf, []⟩)
  rw [h1] at hr
  have hlen : (obsOf P laid).length = glb P := by simp [obsOf]
  have hob : ∀ g, g < glb P → obj H g = obOf P laid g := fun g hg => by
    have := h2 g (by omega)
    show (getN hd g).f H = _
    rw [this, List.getD_eq_getElem?_getD]
    unfold obsOf
    rw [List.getElem?_map, List.getElem?_range hg]; rfl
  have hρ : ∀ id s, ρG P id = some s → id < glb P ∧ s = ⟨id, 0, 0⟩ := fun id s hs => by
    unfold ρG at hs
    split at hs
    · cases hs; exact ⟨by assumption, rfl⟩
    · cases hs
  have hw : WF P (⟨H, glb P, inf, inf, []⟩ : M) := ⟨Nat.le_refl _, hcap, fun id hid hc => by
    have hid : glb P ≤ id := hid
    have := h2 id hc
    show (getN hd id).f H = _
    rw [this, List.getD_eq_getElem?_getD, List.getElem?_eq_none (by omega)]; rfl⟩
  have hrel : Rel P W.heap.size (fun _ => True) (ρG P) H W := by
    refine ⟨hsz, Nat.le_refl _, fun id s hs => ?_, fun id s hs => ?_, fun g hg => if_pos hg, fun id s hs hg => ?_, fun id id' s s' _ _ hg hg' hs => ?_, fun id s hs _ => ?_⟩
    · have := hρ id s hs; omega
    · obtain ⟨a, rfl⟩ := hρ id s hs
      show id < W.heap.size
      omega
    · have := hρ id s hs; omega
    · have := hρ id s hs; omega
    · obtain ⟨a, rfl⟩ := hρ id s hs
      rw [hob id a]
      show OR _ _ _ W.heap[id]?
      rw [hsame id (by omega)]
      exact obOf_ok hS hL a _
  have hf : Fresh (ρG P) (⟨H, glb P, inf, inf, []⟩ : M) m' := fun id hid _ => if_neg (by have hid : glb P ≤ id := hid; omega)
  have hlow := lowN_ok (den_ok P) lf n
  have hc := hlow.call f args ⟨H, glb P, inf, inf, []⟩ _ m' hr rfl W.heap.size (fun _ => True) (ρG P) W vals hw (fun _ _ => trivial) hrel hf (hargs _) 0
  refine (callsIn_wide.1 hc).mono fun e W' => ?_
  rintro ⟨x, ρ', rfl, hran⟩
  have hx : x = .bool v := hran.val
  refine ⟨by rw [hx], ⟨hran.post.os, hran.post.tape, hran.post.out, hran.post.size, fun b hb => hran.post.frame b hb fun id s hs hg => ?_⟩⟩
  have := hρ id s hs; omega

end Go.CE
end
section
namespace Go.Proofs.YtjaklcmadkpmdaaDoor
open Go Go.RowKit Go.Shelf
set_option linter.unusedSimpArgs false
set_option linter.unusedVariables false

/-- What has a backslash ahead of itself, as the document lists it. -/
def specL (cls : Bool) : List Nat := if cls then [93, 45, 94, 92] else [34, 92]
def specB (cls : Bool) : ByteArray := CE.bytesOf (specL cls)
def isB (o : Option Bool) (v : Bool) : Bool := match o with | some x => x == v | none => false
theorem isB_ok {o : Option Bool} {v : Bool} (h : isB o v = true) : o = some v := by
  unfold isB at h
  split at h
  · rw [eq_of_beq h]
  · cases h
noncomputable def withinRun (cls : Bool) (b : Nat) : Option Bool := CE.boolOfR (CE.runArgs Tryd.prog 100000 400 46 [.c (.int .u8 b), .c (.str (specL cls))] (CE.obsOf Tryd.prog laidT))
set_option maxRecDepth 1000000 in
theorem withins_lit : below (fun b => isB (withinRun false b) ((specL false).contains b)) 256 = true := by kernel_rfl
set_option maxRecDepth 1000000 in
theorem withins_cls : below (fun b => isB (withinRun true b) ((specL true).contains b)) 256 = true := by kernel_rfl
theorem within_any (cls : Bool) {W0 W : World} (h : Inv W0) (hb : Below W0.heap.size W0 W) (c : UInt8) :
    Calls Tryd.prog 46 #[.int .u8 c.toNat, .string (specB cls)] W fun e W' => e = .returned (.bool ((specL cls).contains c.toNat)) ∧ Below W.heap.size W W' := by
  have hr : withinRun cls c.toNat = some ((specL cls).contains c.toNat) := by
    cases cls
    · exact isB_ok (below_ok withins_lit _ (UInt8.toNat_lt _))
    · exact isB_ok (below_ok withins_cls _ (UInt8.toNat_lt _))
  exact CE.call_bool_at (args := [.c (.int .u8 c.toNat), .c (.str (specL cls))]) (vals := [.int .u8 c.toNat, .string (specB cls)]) h.shaped h.laid hb.size hb.block (by kernel_rfl) (.inr (by kernel_rfl)) (fun ρ => ⟨rfl, ⟨rfl, by cases cls <;> decide⟩, trivial⟩) hr
noncomputable def hexRun (b : Nat) : Option (IntKind × Int) := CE.intOfR (CE.runArgs Tryd.prog 100000 400 47 [.c (.int .u8 b)] (CE.obsOf Tryd.prog laidT))
set_option maxRecDepth 1000000 in
theorem hexs_all : below (fun b => isNum (hexRun b) (placeOf (smallB b) hexL 0)) 256 = true := by kernel_rfl
theorem hex_any {W0 W : World} (h : Inv W0) (hb : Below W0.heap.size W0 W) (c : UInt8) :
    Calls Tryd.prog 47 #[.int .u8 c.toNat] W fun e W' => e = .returned (.int .i64 (hexZ c)) ∧ Below W.heap.size W W' :=
  CE.call_int_at (args := [.c (.int .u8 c.toNat)]) (vals := [.int .u8 c.toNat]) h.shaped h.laid hb.size hb.block (by kernel_rfl) (.inr (by kernel_rfl)) (fun ρ => ⟨rfl, trivial⟩) (isNum_ok (below_ok hexs_all c.toNat (UInt8.toNat_lt _)))
noncomputable def rsignRun (cls : Bool) (b : Nat) : Option (List Nat) := CE.strOf (CE.runArgs Tryd.prog 100000 400 30 [.c (.int .u8 b), .c (.str (specL cls))] (CE.obsOf Tryd.prog laidT))
set_option maxRecDepth 1000000 in
theorem rsigns_lit : below (fun b => isStr (rsignRun false b) (sgn false b)) 256 = true := by kernel_rfl
set_option maxRecDepth 1000000 in
theorem rsigns_cls : below (fun b => isStr (rsignRun true b) (sgn true b)) 256 = true := by kernel_rfl
theorem rSign_any (cls : Bool) {W0 W : World} (h : Inv W0) (hb : Below W0.heap.size W0 W) (b : UInt8) :
    Calls Tryd.prog 30 #[.int .u8 b.toNat, .string (specB cls)] W fun e W' => e = .returned (.string (sgnB cls b.toNat)) ∧ Below W.heap.size W W' := by
  have hr : rsignRun cls b.toNat = some (sgn cls b.toNat) := by
    cases cls
    · exact isStr_ok (below_ok rsigns_lit _ (UInt8.toNat_lt _))
    · exact isStr_ok (below_ok rsigns_cls _ (UInt8.toNat_lt _))
  exact CE.call_str_at (args := [.c (.int .u8 b.toNat), .c (.str (specL cls))]) (vals := [.int .u8 b.toNat, .string (specB cls)]) h.shaped h.laid hb.size hb.block (by kernel_rfl) (.inr (by kernel_rfl)) (fun ρ => ⟨rfl, ⟨rfl, by cases cls <;> decide⟩, trivial⟩) hr

/-- Of a byte that is no backslash: what the reader takes for plain is what the document takes. -/
theorem plain_spec (cls : Bool) : ∀ n : Nat, n < 256 → n ≠ 92 → ((decide (32 ≤ (n : Int)) && (decide ((n : Int) ≤ 126) && decide (placeOf n (bareL cls) 0 < 0))) = (decide (32 ≤ n) && decide (n ≤ 126) && !(specL cls).contains n)) := by
  have h : ∀ cls : Bool, below (fun n => n == 92 || ((decide (32 ≤ (n : Int)) && (decide ((n : Int) ≤ 126) && decide (placeOf n (bareL cls) 0 < 0))) == (decide (32 ≤ n) && decide (n ≤ 126) && !(specL cls).contains n))) 256 = true := fun cls => by cases cls <;> kernel_rfl
  intro n hn h92
  have := below_ok (h cls) n hn
  simpa [h92] using this
end Go.Proofs.YtjaklcmadkpmdaaDoor
end
section
namespace Go.Proofs.YtjaklcmadkpmdaaDoor
open Go Go.RowKit Go.Shelf
set_option linter.unusedSimpArgs false
set_option linter.unusedVariables false

/-- What the document's sign tells, of what the reader's comes to. -/
def sgV (p : UInt8 × Rd) : Value := if p.2.e = 0 then .tuple #[.int .u8 p.1.toNat, .int .i64 p.2.at', .int .i64 0] else .tuple #[.int .u8 0, .int .i64 p.2.at', .int .i64 p.2.e]
theorem sgV_bad (r : Rd) : sgV (0, r.bad) = .tuple #[.int .u8 0, .int .i64 r.at', .int .i64 (if r.text.size ≤ r.at' then 8 else 4 : Nat)] := by
  unfold sgV
  rw [if_neg r.bad_e]
  rfl
theorem sgV_ok {x : UInt8} {r : Rd} (h : r.e = 0) : sgV (x, r) = .tuple #[.int .u8 x.toNat, .int .i64 r.at', .int .i64 0] := by
  unfold sgV
  rw [if_pos h]

set_option maxRecDepth 100000 in
set_option maxHeartbeats 4000000 in
theorem rs_none (cls : Bool) {W0 W : World} (hI : Inv W0) (hb0 : Below W0.heap.size W0 W) (t : ByteArray) (a : Nat) (hs : t.size ≤ 1000000000) (h : t.size ≤ a) :
    Calls Tryd.prog 29 #[.string t, .int .i64 a, .string (specB cls)] W fun e w' => e = .returned (.tuple #[.int .u8 0, .int .i64 t.size, .int .i64 8]) ∧ Below W.heap.size W w' := by
  have HB := Lib.hid hb0
  have d1 : decide ((t.size : Int) ≤ (a : Int)) = true := by simp; omega
  have d2 : (t.size : Int) ≤ (a : Int) := by omega
  clear hI hb0
  generalize specB cls = sp at *
  go_enter Tryd.func29, Tryd.ntmps29
  go_wp2_with fail
  refine bodyPost_ret (v := (.tuple #[.int .u8 0, .int .i64 t.size, .int .i64 8])) (by simp [results, Tryd.results29, go_sem]) rfl ?_
  first | exact ⟨rfl, Below.refl _ _⟩ | exact ⟨rfl, hb1⟩

set_option maxRecDepth 100000 in
set_option maxHeartbeats 4000000 in
theorem rs_low (cls : Bool) {W0 W : World} (hI : Inv W0) (hb0 : Below W0.heap.size W0 W) (t : ByteArray) (a : Nat) (hs : t.size ≤ 1000000000) (h : a < t.size) (hl : t[a].toNat < 32) :
    Calls Tryd.prog 29 #[.string t, .int .i64 a, .string (specB cls)] W fun e w' => e = .returned (.tuple #[.int .u8 0, .int .i64 a, .int .i64 4]) ∧ Below W.heap.size W w' := by
  have HB := Lib.hid hb0
  have d1 : decide ((t.size : Int) ≤ (a : Int)) = false := by simp; omega
  have d2 : ¬ ((t.size : Int) ≤ (a : Int)) := by omega
  have d3 : (a : Int) < (t.size : Int) := by omega
  have l1 : decide ((t[a].toNat : Int) < 32) = true := by simp; omega
  clear hI hb0
  generalize specB cls = sp at *
  go_enter Tryd.func29, Tryd.ntmps29
  go_wp2_with fail
  refine bodyPost_ret (v := (.tuple #[.int .u8 0, .int .i64 a, .int .i64 4])) (by simp [results, Tryd.results29, go_sem]) rfl ?_
  first | exact ⟨rfl, Below.refl _ _⟩ | exact ⟨rfl, hb1⟩

set_option maxRecDepth 100000 in
set_option maxHeartbeats 4000000 in
theorem rs_high (cls : Bool) {W0 W : World} (hI : Inv W0) (hb0 : Below W0.heap.size W0 W) (t : ByteArray) (a : Nat) (hs : t.size ≤ 1000000000) (h : a < t.size) (hl : 126 < t[a].toNat) :
    Calls Tryd.prog 29 #[.string t, .int .i64 a, .string (specB cls)] W fun e w' => e = .returned (.tuple #[.int .u8 0, .int .i64 a, .int .i64 4]) ∧ Below W.heap.size W w' := by
  have HB := Lib.hid hb0
  have d1 : decide ((t.size : Int) ≤ (a : Int)) = false := by simp; omega
  have d2 : ¬ ((t.size : Int) ≤ (a : Int)) := by omega
  have d3 : (a : Int) < (t.size : Int) := by omega
  have l1 : decide ((t[a].toNat : Int) < 32) = false := by simp; omega
  have l2 : decide ((126 : Int) < (t[a].toNat : Int)) = true := by simp; omega
  clear hI hb0
  generalize specB cls = sp at *
  go_enter Tryd.func29, Tryd.ntmps29
  go_wp2_with fail
  refine bodyPost_ret (v := (.tuple #[.int .u8 0, .int .i64 a, .int .i64 4])) (by simp [results, Tryd.results29, go_sem]) rfl ?_
  first | exact ⟨rfl, Below.refl _ _⟩ | exact ⟨rfl, hb1⟩

set_option maxRecDepth 100000 in
set_option maxHeartbeats 4000000 in
theorem rs_spec (cls : Bool) {W0 W : World} (hI : Inv W0) (hb0 : Below W0.heap.size W0 W) (t : ByteArray) (a : Nat) (hs : t.size ≤ 1000000000) (h : a < t.size) (hl : 32 ≤ t[a].toNat) (hh : t[a].toNat ≤ 126) (hn : t[a].toNat ≠ 92) (hw : (specL cls).contains t[a].toNat = true) :
    Calls Tryd.prog 29 #[.string t, .int .i64 a, .string (specB cls)] W fun e w' => e = .returned (.tuple #[.int .u8 0, .int .i64 a, .int .i64 4]) ∧ Below W.heap.size W w' := by
  have HW1 := Lib.hid (show ∀ W : World, Below W0.heap.size W0 W → Calls Tryd.prog 46 #[.int .u8 (t[a]).toNat, .string (specB cls)] W fun e w' => e = .returned (.bool true) ∧ Below W.heap.size W w' from fun W hB => by have := within_any cls hI hB (t[a]); rw [hw] at this; exact this)
  have HB := Lib.hid hb0
  have d1 : decide ((t.size : Int) ≤ (a : Int)) = false := by simp; omega
  have d2 : ¬ ((t.size : Int) ≤ (a : Int)) := by omega
  have d3 : (a : Int) < (t.size : Int) := by omega
  have l1 : decide ((t[a].toNat : Int) < 32) = false := by simp; omega
  have l2 : decide ((126 : Int) < (t[a].toNat : Int)) = false := by simp; omega
  have h92 : ((t[a].toNat : Int) != 92) = true := by rw [bne_iff_ne]; omega
  clear hI hb0
  generalize specB cls = sp at *
  go_enter Tryd.func29, Tryd.ntmps29
  go_wp2_with (go_at_call 46; refine (HW1.out _ HB.out).mono ?_; rintro e w1 ⟨rfl, hb1⟩)
  refine bodyPost_ret (v := (.tuple #[.int .u8 0, .int .i64 a, .int .i64 4])) (by simp [results, Tryd.results29, go_sem]) rfl ?_
  first | exact ⟨rfl, Below.refl _ _⟩ | exact ⟨rfl, hb1⟩

set_option maxRecDepth 100000 in
set_option maxHeartbeats 4000000 in
theorem rs_bare (cls : Bool) {W0 W : World} (hI : Inv W0) (hb0 : Below W0.heap.size W0 W) (t : ByteArray) (a : Nat) (hs : t.size ≤ 1000000000) (h : a < t.size) (hl : 32 ≤ t[a].toNat) (hh : t[a].toNat ≤ 126) (hn : t[a].toNat ≠ 92) (hw : (specL cls).contains t[a].toNat = false) :
    Calls Tryd.prog 29 #[.string t, .int .i64 a, .string (specB cls)] W fun e w' => e = .returned (.tuple #[.int .u8 t[a].toNat, .int .i64 (a + 1 : Nat), .int .i64 0]) ∧ Below W.heap.size W w' := by
  have HW1 := Lib.hid (show ∀ W : World, Below W0.heap.size W0 W → Calls Tryd.prog 46 #[.int .u8 (t[a]).toNat, .string (specB cls)] W fun e w' => e = .returned (.bool false) ∧ Below W.heap.size W w' from fun W hB => by have := within_any cls hI hB (t[a]); rw [hw] at this; exact this)
  have HB := Lib.hid hb0
  have d1 : decide ((t.size : Int) ≤ (a : Int)) = false := by simp; omega
  have d2 : ¬ ((t.size : Int) ≤ (a : Int)) := by omega
  have d3 : (a : Int) < (t.size : Int) := by omega
  have l1 : decide ((t[a].toNat : Int) < 32) = false := by simp; omega
  have l2 : decide ((126 : Int) < (t[a].toNat : Int)) = false := by simp; omega
  have h92 : ((t[a].toNat : Int) != 92) = true := by rw [bne_iff_ne]; omega
  clear hI hb0
  generalize specB cls = sp at *
  go_enter Tryd.func29, Tryd.ntmps29
  go_wp2_with (go_at_call 46; refine (HW1.out _ HB.out).mono ?_; rintro e w1 ⟨rfl, hb1⟩)
  refine bodyPost_ret (v := (.tuple #[.int .u8 t[a].toNat, .int .i64 (a + 1 : Nat), .int .i64 0])) (by simp [results, Tryd.results29, go_sem]) rfl ?_
  first | exact ⟨rfl, Below.refl _ _⟩ | exact ⟨rfl, hb1⟩

set_option maxRecDepth 100000 in
set_option maxHeartbeats 4000000 in
theorem rs_end (cls : Bool) {W0 W : World} (hI : Inv W0) (hb0 : Below W0.heap.size W0 W) (t : ByteArray) (a : Nat) (hs : t.size ≤ 1000000000) (h : a < t.size) (hl : 32 ≤ t[a].toNat) (hh : t[a].toNat ≤ 126) (hn : t[a].toNat = 92) (he : t.size ≤ a + 1) :
    Calls Tryd.prog 29 #[.string t, .int .i64 a, .string (specB cls)] W fun e w' => e = .returned (.tuple #[.int .u8 0, .int .i64 t.size, .int .i64 8]) ∧ Below W.heap.size W w' := by
  have HB := Lib.hid hb0
  have d1 : decide ((t.size : Int) ≤ (a : Int)) = false := by simp; omega
  have d2 : ¬ ((t.size : Int) ≤ (a : Int)) := by omega
  have d3 : (a : Int) < (t.size : Int) := by omega
  have l1 : decide ((t[a].toNat : Int) < 32) = false := by simp; omega
  have l2 : decide ((126 : Int) < (t[a].toNat : Int)) = false := by simp; omega
  have h92 : ((t[a].toNat : Int) != 92) = false := by rw [bne_eq_false_iff_eq]; omega
  have p1 : decide ((t.size : Int) ≤ (a : Int) + 1) = true := by simp; omega
  have p2 : (t.size : Int) ≤ (a : Int) + 1 := by omega
  clear hI hb0
  generalize specB cls = sp at *
  go_enter Tryd.func29, Tryd.ntmps29
  go_wp2_with fail
  refine bodyPost_ret (v := (.tuple #[.int .u8 0, .int .i64 t.size, .int .i64 8])) (by simp [results, Tryd.results29, go_sem]) rfl ?_
  first | exact ⟨rfl, Below.refl _ _⟩ | exact ⟨rfl, hb1⟩

set_option maxRecDepth 100000 in
set_option maxHeartbeats 4000000 in
theorem rs_n (cls : Bool) {W0 W : World} (hI : Inv W0) (hb0 : Below W0.heap.size W0 W) (t : ByteArray) (a : Nat) (hs : t.size ≤ 1000000000) (h : a < t.size) (hl : 32 ≤ t[a].toNat) (hh : t[a].toNat ≤ 126) (hn : t[a].toNat = 92) (h2 : a + 1 < t.size) (y : t[a + 1].toNat = 110) :
    Calls Tryd.prog 29 #[.string t, .int .i64 a, .string (specB cls)] W fun e w' => e = .returned (.tuple #[.int .u8 10, .int .i64 (a + 2 : Nat), .int .i64 0]) ∧ Below W.heap.size W w' := by
  have HB := Lib.hid hb0
  have d1 : decide ((t.size : Int) ≤ (a : Int)) = false := by simp; omega
  have d2 : ¬ ((t.size : Int) ≤ (a : Int)) := by omega
  have d3 : (a : Int) < (t.size : Int) := by omega
  have l1 : decide ((t[a].toNat : Int) < 32) = false := by simp; omega
  have l2 : decide ((126 : Int) < (t[a].toNat : Int)) = false := by simp; omega
  have h92 : ((t[a].toNat : Int) != 92) = false := by rw [bne_eq_false_iff_eq]; omega
  have p1 : decide ((t.size : Int) ≤ (a : Int) + 1) = false := by simp; omega
  have p2 : ¬ ((t.size : Int) ≤ (a : Int) + 1) := by omega
  have p3 : (a : Int) + 1 < (t.size : Int) := by omega
  have q0 : ((t[a + 1].toNat : Int) == 110) = true := by rw [beq_iff_eq]; omega
  clear hI hb0
  generalize specB cls = sp at *
  go_enter Tryd.func29, Tryd.ntmps29
  go_wp2_with fail
  refine bodyPost_ret (v := (.tuple #[.int .u8 10, .int .i64 (a + 2 : Nat), .int .i64 0])) (by simp [results, Tryd.results29, go_sem]) rfl ?_
  first | exact ⟨rfl, Below.refl _ _⟩ | exact ⟨rfl, hb1⟩

set_option maxRecDepth 100000 in
set_option maxHeartbeats 4000000 in
theorem rs_r (cls : Bool) {W0 W : World} (hI : Inv W0) (hb0 : Below W0.heap.size W0 W) (t : ByteArray) (a : Nat) (hs : t.size ≤ 1000000000) (h : a < t.size) (hl : 32 ≤ t[a].toNat) (hh : t[a].toNat ≤ 126) (hn : t[a].toNat = 92) (h2 : a + 1 < t.size) (n0 : t[a + 1].toNat ≠ 110) (y : t[a + 1].toNat = 114) :
    Calls Tryd.prog 29 #[.string t, .int .i64 a, .string (specB cls)] W fun e w' => e = .returned (.tuple #[.int .u8 13, .int .i64 (a + 2 : Nat), .int .i64 0]) ∧ Below W.heap.size W w' := by
  have HB := Lib.hid hb0
  have d1 : decide ((t.size : Int) ≤ (a : Int)) = false := by simp; omega
  have d2 : ¬ ((t.size : Int) ≤ (a : Int)) := by omega
  have d3 : (a : Int) < (t.size : Int) := by omega
  have l1 : decide ((t[a].toNat : Int) < 32) = false := by simp; omega
  have l2 : decide ((126 : Int) < (t[a].toNat : Int)) = false := by simp; omega
  have h92 : ((t[a].toNat : Int) != 92) = false := by rw [bne_eq_false_iff_eq]; omega
  have p1 : decide ((t.size : Int) ≤ (a : Int) + 1) = false := by simp; omega
  have p2 : ¬ ((t.size : Int) ≤ (a : Int) + 1) := by omega
  have p3 : (a : Int) + 1 < (t.size : Int) := by omega
  have q0 : ((t[a + 1].toNat : Int) == 110) = false := by rw [beq_eq_false_iff_ne]; omega
  have q1 : ((t[a + 1].toNat : Int) == 114) = true := by rw [beq_iff_eq]; omega
  clear hI hb0
  generalize specB cls = sp at *
  go_enter Tryd.func29, Tryd.ntmps29
  go_wp2_with fail
  refine bodyPost_ret (v := (.tuple #[.int .u8 13, .int .i64 (a + 2 : Nat), .int .i64 0])) (by simp [results, Tryd.results29, go_sem]) rfl ?_
  first | exact ⟨rfl, Below.refl _ _⟩ | exact ⟨rfl, hb1⟩

set_option maxRecDepth 100000 in
set_option maxHeartbeats 4000000 in
theorem rs_t (cls : Bool) {W0 W : World} (hI : Inv W0) (hb0 : Below W0.heap.size W0 W) (t : ByteArray) (a : Nat) (hs : t.size ≤ 1000000000) (h : a < t.size) (hl : 32 ≤ t[a].toNat) (hh : t[a].toNat ≤ 126) (hn : t[a].toNat = 92) (h2 : a + 1 < t.size) (n0 : t[a + 1].toNat ≠ 110) (n1 : t[a + 1].toNat ≠ 114) (y : t[a + 1].toNat = 116) :
    Calls Tryd.prog 29 #[.string t, .int .i64 a, .string (specB cls)] W fun e w' => e = .returned (.tuple #[.int .u8 9, .int .i64 (a + 2 : Nat), .int .i64 0]) ∧ Below W.heap.size W w' := by
  have HB := Lib.hid hb0
  have d1 : decide ((t.size : Int) ≤ (a : Int)) = false := by simp; omega
  have d2 : ¬ ((t.size : Int) ≤ (a : Int)) := by omega
  have d3 : (a : Int) < (t.size : Int) := by omega
  have l1 : decide ((t[a].toNat : Int) < 32) = false := by simp; omega
  have l2 : decide ((126 : Int) < (t[a].toNat : Int)) = false := by simp; omega
  have h92 : ((t[a].toNat : Int) != 92) = false := by rw [bne_eq_false_iff_eq]; omega
  have p1 : decide ((t.size : Int) ≤ (a : Int) + 1) = false := by simp; omega
  have p2 : ¬ ((t.size : Int) ≤ (a : Int) + 1) := by omega
  have p3 : (a : Int) + 1 < (t.size : Int) := by omega
  have q0 : ((t[a + 1].toNat : Int) == 110) = false := by rw [beq_eq_false_iff_ne]; omega
  have q1 : ((t[a + 1].toNat : Int) == 114) = false := by rw [beq_eq_false_iff_ne]; omega
  have q2 : ((t[a + 1].toNat : Int) == 116) = true := by rw [beq_iff_eq]; omega
  clear hI hb0
  generalize specB cls = sp at *
  go_enter Tryd.func29, Tryd.ntmps29
  go_wp2_with fail
  refine bodyPost_ret (v := (.tuple #[.int .u8 9, .int .i64 (a + 2 : Nat), .int .i64 0])) (by simp [results, Tryd.results29, go_sem]) rfl ?_
  first | exact ⟨rfl, Below.refl _ _⟩ | exact ⟨rfl, hb1⟩

set_option maxRecDepth 100000 in
set_option maxHeartbeats 4000000 in
theorem rs_back (cls : Bool) {W0 W : World} (hI : Inv W0) (hb0 : Below W0.heap.size W0 W) (t : ByteArray) (a : Nat) (hs : t.size ≤ 1000000000) (h : a < t.size) (hl : 32 ≤ t[a].toNat) (hh : t[a].toNat ≤ 126) (hn : t[a].toNat = 92) (h2 : a + 1 < t.size) (n0 : t[a + 1].toNat ≠ 110) (n1 : t[a + 1].toNat ≠ 114) (n2 : t[a + 1].toNat ≠ 116) (hw : (specL cls).contains t[a + 1].toNat = true) :
    Calls Tryd.prog 29 #[.string t, .int .i64 a, .string (specB cls)] W fun e w' => e = .returned (.tuple #[.int .u8 t[a + 1].toNat, .int .i64 (a + 2 : Nat), .int .i64 0]) ∧ Below W.heap.size W w' := by
  have HW1 := Lib.hid (show ∀ W : World, Below W0.heap.size W0 W → Calls Tryd.prog 46 #[.int .u8 (t[a + 1]).toNat, .string (specB cls)] W fun e w' => e = .returned (.bool true) ∧ Below W.heap.size W w' from fun W hB => by have := within_any cls hI hB (t[a + 1]); rw [hw] at this; exact this)
  have HB := Lib.hid hb0
  have d1 : decide ((t.size : Int) ≤ (a : Int)) = false := by simp; omega
  have d2 : ¬ ((t.size : Int) ≤ (a : Int)) := by omega
  have d3 : (a : Int) < (t.size : Int) := by omega
  have l1 : decide ((t[a].toNat : Int) < 32) = false := by simp; omega
  have l2 : decide ((126 : Int) < (t[a].toNat : Int)) = false := by simp; omega
  have h92 : ((t[a].toNat : Int) != 92) = false := by rw [bne_eq_false_iff_eq]; omega
  have p1 : decide ((t.size : Int) ≤ (a : Int) + 1) = false := by simp; omega
  have p2 : ¬ ((t.size : Int) ≤ (a : Int) + 1) := by omega
  have p3 : (a : Int) + 1 < (t.size : Int) := by omega
  have q0 : ((t[a + 1].toNat : Int) == 110) = false := by rw [beq_eq_false_iff_ne]; omega
  have q1 : ((t[a + 1].toNat : Int) == 114) = false := by rw [beq_eq_false_iff_ne]; omega
  have q2 : ((t[a + 1].toNat : Int) == 116) = false := by rw [beq_eq_false_iff_ne]; omega
  clear hI hb0
  generalize specB cls = sp at *
  go_enter Tryd.func29, Tryd.ntmps29
  go_wp2_with (go_at_call 46; refine (HW1.out _ HB.out).mono ?_; rintro e w1 ⟨rfl, hb1⟩)
  refine bodyPost_ret (v := (.tuple #[.int .u8 t[a + 1].toNat, .int .i64 (a + 2 : Nat), .int .i64 0])) (by simp [results, Tryd.results29, go_sem]) rfl ?_
  first | exact ⟨rfl, Below.refl _ _⟩ | exact ⟨rfl, hb1⟩

set_option maxRecDepth 100000 in
set_option maxHeartbeats 4000000 in
theorem rs_form (cls : Bool) {W0 W : World} (hI : Inv W0) (hb0 : Below W0.heap.size W0 W) (t : ByteArray) (a : Nat) (hs : t.size ≤ 1000000000) (h : a < t.size) (hl : 32 ≤ t[a].toNat) (hh : t[a].toNat ≤ 126) (hn : t[a].toNat = 92) (h2 : a + 1 < t.size) (n0 : t[a + 1].toNat ≠ 110) (n1 : t[a + 1].toNat ≠ 114) (n2 : t[a + 1].toNat ≠ 116) (hw : (specL cls).contains t[a + 1].toNat = false) (y : t[a + 1].toNat ≠ 120) :
    Calls Tryd.prog 29 #[.string t, .int .i64 a, .string (specB cls)] W fun e w' => e = .returned (.tuple #[.int .u8 0, .int .i64 (a + 1 : Nat), .int .i64 4]) ∧ Below W.heap.size W w' := by
  have HW1 := Lib.hid (show ∀ W : World, Below W0.heap.size W0 W → Calls Tryd.prog 46 #[.int .u8 (t[a + 1]).toNat, .string (specB cls)] W fun e w' => e = .returned (.bool false) ∧ Below W.heap.size W w' from fun W hB => by have := within_any cls hI hB (t[a + 1]); rw [hw] at this; exact this)
  have HB := Lib.hid hb0
  have d1 : decide ((t.size : Int) ≤ (a : Int)) = false := by simp; omega
  have d2 : ¬ ((t.size : Int) ≤ (a : Int)) := by omega
  have d3 : (a : Int) < (t.size : Int) := by omega
  have l1 : decide ((t[a].toNat : Int) < 32) = false := by simp; omega
  have l2 : decide ((126 : Int) < (t[a].toNat : Int)) = false := by simp; omega
  have h92 : ((t[a].toNat : Int) != 92) = false := by rw [bne_eq_false_iff_eq]; omega
  have p1 : decide ((t.size : Int) ≤ (a : Int) + 1) = false := by simp; omega
  have p2 : ¬ ((t.size : Int) ≤ (a : Int) + 1) := by omega
  have p3 : (a : Int) + 1 < (t.size : Int) := by omega
  have q0 : ((t[a + 1].toNat : Int) == 110) = false := by rw [beq_eq_false_iff_ne]; omega
  have q1 : ((t[a + 1].toNat : Int) == 114) = false := by rw [beq_eq_false_iff_ne]; omega
  have q2 : ((t[a + 1].toNat : Int) == 116) = false := by rw [beq_eq_false_iff_ne]; omega
  have q4 : ((t[a + 1].toNat : Int) != 120) = true := by rw [bne_iff_ne]; omega
  clear hI hb0
  generalize specB cls = sp at *
  go_enter Tryd.func29, Tryd.ntmps29
  go_wp2_with (go_at_call 46; refine (HW1.out _ HB.out).mono ?_; rintro e w1 ⟨rfl, hb1⟩)
  refine bodyPost_ret (v := (.tuple #[.int .u8 0, .int .i64 (a + 1 : Nat), .int .i64 4])) (by simp [results, Tryd.results29, go_sem]) rfl ?_
  first | exact ⟨rfl, Below.refl _ _⟩ | exact ⟨rfl, hb1⟩

end Go.Proofs.YtjaklcmadkpmdaaDoor
end
section
namespace Go.Proofs.YtjaklcmadkpmdaaDoor
open Go Go.RowKit Go.Shelf
set_option linter.unusedSimpArgs false
set_option linter.unusedVariables false

theorem spec_x (cls : Bool) {c : UInt8} (h : c.toNat = 120) : (specL cls).contains c.toNat = false := by rw [h]; cases cls <;> rfl

set_option maxRecDepth 100000 in
set_option maxHeartbeats 4000000 in
theorem rs_x0 (cls : Bool) {W0 W : World} (hI : Inv W0) (hb0 : Below W0.heap.size W0 W) (t : ByteArray) (a : Nat) (hs : t.size ≤ 1000000000) (h : a < t.size) (hl : 32 ≤ t[a].toNat) (hh : t[a].toNat ≤ 126) (hn : t[a].toNat = 92) (h2 : a + 1 < t.size) (y : t[a + 1].toNat = 120) (h3 : t.size ≤ a + 2) :
    Calls Tryd.prog 29 #[.string t, .int .i64 a, .string (specB cls)] W fun e w' => e = .returned (.tuple #[.int .u8 0, .int .i64 t.size, .int .i64 8]) ∧ Below W.heap.size W w' := by
  have hw := spec_x cls y
  have HW1 := Lib.hid (show ∀ W : World, Below W0.heap.size W0 W → Calls Tryd.prog 46 #[.int .u8 (t[a + 1]).toNat, .string (specB cls)] W fun e w' => e = .returned (.bool false) ∧ Below W.heap.size W w' from fun W hB => by have := within_any cls hI hB (t[a + 1]); rw [hw] at this; exact this)
  have HB := Lib.hid hb0
  have d1 : decide ((t.size : Int) ≤ (a : Int)) = false := by simp; omega
  have d2 : ¬ ((t.size : Int) ≤ (a : Int)) := by omega
  have d3 : (a : Int) < (t.size : Int) := by omega
  have l1 : decide ((t[a].toNat : Int) < 32) = false := by simp; omega
  have l2 : decide ((126 : Int) < (t[a].toNat : Int)) = false := by simp; omega
  have h92 : ((t[a].toNat : Int) != 92) = false := by rw [bne_eq_false_iff_eq]; omega
  have p1 : decide ((t.size : Int) ≤ (a : Int) + 1) = false := by simp; omega
  have p2 : ¬ ((t.size : Int) ≤ (a : Int) + 1) := by omega
  have p3 : (a : Int) + 1 < (t.size : Int) := by omega
  have q0 : ((t[a + 1].toNat : Int) == 110) = false := by rw [beq_eq_false_iff_ne]; omega
  have q1 : ((t[a + 1].toNat : Int) == 114) = false := by rw [beq_eq_false_iff_ne]; omega
  have q2 : ((t[a + 1].toNat : Int) == 116) = false := by rw [beq_eq_false_iff_ne]; omega
  have q4 : ((t[a + 1].toNat : Int) != 120) = false := by rw [bne_eq_false_iff_eq]; omega
  have r2 : decide ((t.size : Int) ≤ (a : Int) + 2) = true := by simp; omega
  have s2 : ((t.size : Int) ≤ (a : Int) + 2) := by omega
  clear hI hb0 hw y hn hl hh
  generalize specB cls = sp at *
  go_enter Tryd.func29, Tryd.ntmps29
  go_wp2_with (go_at_call 46; refine (HW1.out _ HB.out).mono ?_; rintro e w1 ⟨rfl, hb1⟩)
  clear HW1 q0 q1 q2 q4 h92 l1 l2 d1 d2 p1 p2
  go_loopw [10, 11] (fun n i wr => (i = .int .i64 ((a : Int) + 2) ∧ n = .int .i64 0) ∧ Below W.heap.size W wr) (fun n i _ => a + 4 - (intOf i).toNat)
  case atStart => exact ⟨⟨by go_num, rfl⟩, hb1⟩
  case round =>
    clear hb1
    obtain ⟨hr, hb⟩ := hrel
    obtain ⟨rfl, rfl⟩ := hr
    · go_wp2_with fail
      refine bodyPost_ret (v := (.tuple #[.int .u8 0, .int .i64 t.size, .int .i64 8])) (by simp [results, Tryd.results29, go_sem]) rfl ?_
      first | exact ⟨rfl, hb⟩ | exact ⟨rfl, hb2'⟩

set_option maxRecDepth 100000 in
set_option maxHeartbeats 4000000 in
theorem rs_x1 (cls : Bool) {W0 W : World} (hI : Inv W0) (hb0 : Below W0.heap.size W0 W) (t : ByteArray) (a : Nat) (hs : t.size ≤ 1000000000) (h : a < t.size) (hl : 32 ≤ t[a].toNat) (hh : t[a].toNat ≤ 126) (hn : t[a].toNat = 92) (h2 : a + 1 < t.size) (y : t[a + 1].toNat = 120) (h3 : a + 2 < t.size) (k1 : hexZ t[a + 2] < 0) :
    Calls Tryd.prog 29 #[.string t, .int .i64 a, .string (specB cls)] W fun e w' => e = .returned (.tuple #[.int .u8 0, .int .i64 (a + 2 : Nat), .int .i64 4]) ∧ Below W.heap.size W w' := by
  have hw := spec_x cls y
  have HW1 := Lib.hid (show ∀ W : World, Below W0.heap.size W0 W → Calls Tryd.prog 46 #[.int .u8 (t[a + 1]).toNat, .string (specB cls)] W fun e w' => e = .returned (.bool false) ∧ Below W.heap.size W w' from fun W hB => by have := within_any cls hI hB (t[a + 1]); rw [hw] at this; exact this)
  obtain ⟨z1, ez1⟩ : ∃ z, hexZ t[a + 2] = z := ⟨_, rfl⟩
  have HX1 := Lib.hid (show ∀ W : World, Below W0.heap.size W0 W → Calls Tryd.prog 47 #[.int .u8 (t[a + 2]).toNat] W fun e w' => e = .returned (.int .i64 z1) ∧ Below W.heap.size W w' from fun W hB => by have := hex_any hI hB (t[a + 2]); rw [ez1] at this; exact this)
  rw [ez1] at k1
  have hz1 := hexZ_lt t[a + 2]
  rw [ez1] at hz1
  (try rw [ez1])
  clear ez1
  have g1 : decide (z1 < 0) = true := by simp; omega
  have g1' : (z1 < 0) := by omega
  have HB := Lib.hid hb0
  have d1 : decide ((t.size : Int) ≤ (a : Int)) = false := by simp; omega
  have d2 : ¬ ((t.size : Int) ≤ (a : Int)) := by omega
  have d3 : (a : Int) < (t.size : Int) := by omega
  have l1 : decide ((t[a].toNat : Int) < 32) = false := by simp; omega
  have l2 : decide ((126 : Int) < (t[a].toNat : Int)) = false := by simp; omega
  have h92 : ((t[a].toNat : Int) != 92) = false := by rw [bne_eq_false_iff_eq]; omega
  have p1 : decide ((t.size : Int) ≤ (a : Int) + 1) = false := by simp; omega
  have p2 : ¬ ((t.size : Int) ≤ (a : Int) + 1) := by omega
  have p3 : (a : Int) + 1 < (t.size : Int) := by omega
  have q0 : ((t[a + 1].toNat : Int) == 110) = false := by rw [beq_eq_false_iff_ne]; omega
  have q1 : ((t[a + 1].toNat : Int) == 114) = false := by rw [beq_eq_false_iff_ne]; omega
  have q2 : ((t[a + 1].toNat : Int) == 116) = false := by rw [beq_eq_false_iff_ne]; omega
  have q4 : ((t[a + 1].toNat : Int) != 120) = false := by rw [bne_eq_false_iff_eq]; omega
  have r2 : decide ((t.size : Int) ≤ (a : Int) + 2) = false := by simp; omega
  have s2 : ¬ ((t.size : Int) ≤ (a : Int) + 2) := by omega
  have u2 : (a : Int) + 2 < (t.size : Int) := by omega
  clear hI hb0 hw y hn hl hh
  generalize specB cls = sp at *
  go_enter Tryd.func29, Tryd.ntmps29
  go_wp2_with (go_at_call 46; refine (HW1.out _ HB.out).mono ?_; rintro e w1 ⟨rfl, hb1⟩)
  clear HW1 q0 q1 q2 q4 h92 l1 l2 d1 d2 p1 p2
  go_loopw [10, 11] (fun n i wr => (i = .int .i64 ((a : Int) + 2) ∧ n = .int .i64 0) ∧ Below W.heap.size W wr) (fun n i _ => a + 4 - (intOf i).toNat)
  case atStart => exact ⟨⟨by go_num, rfl⟩, hb1⟩
  case round =>
    clear hb1
    obtain ⟨hr, hb⟩ := hrel
    obtain ⟨rfl, rfl⟩ := hr
    · go_wp2_with (go_at_call 47; refine (HX1.out _ (HB.out.trans (hb.mono HB.out.size))).mono ?_; rintro e w2 ⟨rfl, hb2⟩; have hb2' := hb.trans (hb2.mono hb.size))
      refine bodyPost_ret (v := (.tuple #[.int .u8 0, .int .i64 (a + 2 : Nat), .int .i64 4])) (by simp [results, Tryd.results29, go_sem]) rfl ?_
      first | exact ⟨rfl, hb⟩ | exact ⟨rfl, hb2'⟩

set_option maxRecDepth 100000 in
set_option maxHeartbeats 4000000 in
theorem rs_x2 (cls : Bool) {W0 W : World} (hI : Inv W0) (hb0 : Below W0.heap.size W0 W) (t : ByteArray) (a : Nat) (hs : t.size ≤ 1000000000) (h : a < t.size) (hl : 32 ≤ t[a].toNat) (hh : t[a].toNat ≤ 126) (hn : t[a].toNat = 92) (h2 : a + 1 < t.size) (y : t[a + 1].toNat = 120) (h3 : a + 2 < t.size) (k1 : 0 ≤ hexZ t[a + 2]) (h4 : t.size ≤ a + 3) :
    Calls Tryd.prog 29 #[.string t, .int .i64 a, .string (specB cls)] W fun e w' => e = .returned (.tuple #[.int .u8 0, .int .i64 t.size, .int .i64 8]) ∧ Below W.heap.size W w' := by
  have hw := spec_x cls y
  have HW1 := Lib.hid (show ∀ W : World, Below W0.heap.size W0 W → Calls Tryd.prog 46 #[.int .u8 (t[a + 1]).toNat, .string (specB cls)] W fun e w' => e = .returned (.bool false) ∧ Below W.heap.size W w' from fun W hB => by have := within_any cls hI hB (t[a + 1]); rw [hw] at this; exact this)
  obtain ⟨z1, ez1⟩ : ∃ z, hexZ t[a + 2] = z := ⟨_, rfl⟩
  have HX1 := Lib.hid (show ∀ W : World, Below W0.heap.size W0 W → Calls Tryd.prog 47 #[.int .u8 (t[a + 2]).toNat] W fun e w' => e = .returned (.int .i64 z1) ∧ Below W.heap.size W w' from fun W hB => by have := hex_any hI hB (t[a + 2]); rw [ez1] at this; exact this)
  rw [ez1] at k1
  have hz1 := hexZ_lt t[a + 2]
  rw [ez1] at hz1
  (try rw [ez1])
  clear ez1
  have g1 : decide (z1 < 0) = false := by simp; omega
  have g1' : ¬ (z1 < 0) := by omega
  have HB := Lib.hid hb0
  have d1 : decide ((t.size : Int) ≤ (a : Int)) = false := by simp; omega
  have d2 : ¬ ((t.size : Int) ≤ (a : Int)) := by omega
  have d3 : (a : Int) < (t.size : Int) := by omega
  have l1 : decide ((t[a].toNat : Int) < 32) = false := by simp; omega
  have l2 : decide ((126 : Int) < (t[a].toNat : Int)) = false := by simp; omega
  have h92 : ((t[a].toNat : Int) != 92) = false := by rw [bne_eq_false_iff_eq]; omega
  have p1 : decide ((t.size : Int) ≤ (a : Int) + 1) = false := by simp; omega
  have p2 : ¬ ((t.size : Int) ≤ (a : Int) + 1) := by omega
  have p3 : (a : Int) + 1 < (t.size : Int) := by omega
  have q0 : ((t[a + 1].toNat : Int) == 110) = false := by rw [beq_eq_false_iff_ne]; omega
  have q1 : ((t[a + 1].toNat : Int) == 114) = false := by rw [beq_eq_false_iff_ne]; omega
  have q2 : ((t[a + 1].toNat : Int) == 116) = false := by rw [beq_eq_false_iff_ne]; omega
  have q4 : ((t[a + 1].toNat : Int) != 120) = false := by rw [bne_eq_false_iff_eq]; omega
  have r2 : decide ((t.size : Int) ≤ (a : Int) + 2) = false := by simp; omega
  have s2 : ¬ ((t.size : Int) ≤ (a : Int) + 2) := by omega
  have u2 : (a : Int) + 2 < (t.size : Int) := by omega
  have r3 : decide ((t.size : Int) ≤ (a : Int) + 3) = true := by simp; omega
  have s3 : ((t.size : Int) ≤ (a : Int) + 3) := by omega
  clear hI hb0 hw y hn hl hh
  generalize specB cls = sp at *
  go_enter Tryd.func29, Tryd.ntmps29
  go_wp2_with (go_at_call 46; refine (HW1.out _ HB.out).mono ?_; rintro e w1 ⟨rfl, hb1⟩)
  clear HW1 q0 q1 q2 q4 h92 l1 l2 d1 d2 p1 p2
  go_loopw [10, 11] (fun n i wr => (i = .int .i64 ((a : Int) + 2) ∧ n = .int .i64 0 ∨ i = .int .i64 ((a : Int) + 3) ∧ n = .int .i64 z1) ∧ Below W.heap.size W wr) (fun n i _ => a + 4 - (intOf i).toNat)
  case atStart => exact ⟨.inl ⟨by go_num, rfl⟩, hb1⟩
  case round =>
    clear hb1
    obtain ⟨hr, hb⟩ := hrel
    rcases hr with ⟨rfl, rfl⟩ | ⟨rfl, rfl⟩
    · go_wp2_with (first | (go_at_call 47; refine (HX1.out _ (HB.out.trans (hb.mono HB.out.size))).mono ?_; rintro e w2 ⟨rfl, hb2⟩; have hb2' := hb.trans (hb2.mono hb.size)) | (go_at_call 47; refine (HX1.out _ (HB.out.trans (hb2'.mono HB.out.size))).mono ?_; rintro e w3 ⟨rfl, hb3⟩; have hb3' := hb2'.trans (hb3.mono hb2'.size)))
      go_roundw
      case rel => exact ⟨.inr ⟨by go_num, by go_num⟩, by first | exact hb3' | exact hb2'⟩
      case measure => simp [intOf]; omega
    · go_wp2_with fail
      refine bodyPost_ret (v := (.tuple #[.int .u8 0, .int .i64 t.size, .int .i64 8])) (by simp [results, Tryd.results29, go_sem]) rfl ?_
      first | exact ⟨rfl, hb⟩ | exact ⟨rfl, hb2'⟩

set_option maxRecDepth 100000 in
set_option maxHeartbeats 4000000 in
theorem rs_x3 (cls : Bool) {W0 W : World} (hI : Inv W0) (hb0 : Below W0.heap.size W0 W) (t : ByteArray) (a : Nat) (hs : t.size ≤ 1000000000) (h : a < t.size) (hl : 32 ≤ t[a].toNat) (hh : t[a].toNat ≤ 126) (hn : t[a].toNat = 92) (h2 : a + 1 < t.size) (y : t[a + 1].toNat = 120) (h3 : a + 2 < t.size) (k1 : 0 ≤ hexZ t[a + 2]) (h4 : a + 3 < t.size) (k3 : hexZ t[a + 3] < 0) :
    Calls Tryd.prog 29 #[.string t, .int .i64 a, .string (specB cls)] W fun e w' => e = .returned (.tuple #[.int .u8 0, .int .i64 (a + 3 : Nat), .int .i64 4]) ∧ Below W.heap.size W w' := by
  have hw := spec_x cls y
  have HW1 := Lib.hid (show ∀ W : World, Below W0.heap.size W0 W → Calls Tryd.prog 46 #[.int .u8 (t[a + 1]).toNat, .string (specB cls)] W fun e w' => e = .returned (.bool false) ∧ Below W.heap.size W w' from fun W hB => by have := within_any cls hI hB (t[a + 1]); rw [hw] at this; exact this)
  obtain ⟨z1, ez1⟩ : ∃ z, hexZ t[a + 2] = z := ⟨_, rfl⟩
  have HX1 := Lib.hid (show ∀ W : World, Below W0.heap.size W0 W → Calls Tryd.prog 47 #[.int .u8 (t[a + 2]).toNat] W fun e w' => e = .returned (.int .i64 z1) ∧ Below W.heap.size W w' from fun W hB => by have := hex_any hI hB (t[a + 2]); rw [ez1] at this; exact this)
  rw [ez1] at k1
  have hz1 := hexZ_lt t[a + 2]
  rw [ez1] at hz1
  (try rw [ez1])
  clear ez1
  have g1 : decide (z1 < 0) = false := by simp; omega
  have g1' : ¬ (z1 < 0) := by omega
  obtain ⟨z3, ez3⟩ : ∃ z, hexZ t[a + 3] = z := ⟨_, rfl⟩
  have HX3 := Lib.hid (show ∀ W : World, Below W0.heap.size W0 W → Calls Tryd.prog 47 #[.int .u8 (t[a + 3]).toNat] W fun e w' => e = .returned (.int .i64 z3) ∧ Below W.heap.size W w' from fun W hB => by have := hex_any hI hB (t[a + 3]); rw [ez3] at this; exact this)
  rw [ez3] at k3
  have hz3 := hexZ_lt t[a + 3]
  rw [ez3] at hz3
  (try rw [ez3])
  clear ez3
  have g3 : decide (z3 < 0) = true := by simp; omega
  have g3' : (z3 < 0) := by omega
  have HB := Lib.hid hb0
  have d1 : decide ((t.size : Int) ≤ (a : Int)) = false := by simp; omega
  have d2 : ¬ ((t.size : Int) ≤ (a : Int)) := by omega
  have d3 : (a : Int) < (t.size : Int) := by omega
  have l1 : decide ((t[a].toNat : Int) < 32) = false := by simp; omega
  have l2 : decide ((126 : Int) < (t[a].toNat : Int)) = false := by simp; omega
  have h92 : ((t[a].toNat : Int) != 92) = false := by rw [bne_eq_false_iff_eq]; omega
  have p1 : decide ((t.size : Int) ≤ (a : Int) + 1) = false := by simp; omega
  have p2 : ¬ ((t.size : Int) ≤ (a : Int) + 1) := by omega
  have p3 : (a : Int) + 1 < (t.size : Int) := by omega
  have q0 : ((t[a + 1].toNat : Int) == 110) = false := by rw [beq_eq_false_iff_ne]; omega
  have q1 : ((t[a + 1].toNat : Int) == 114) = false := by rw [beq_eq_false_iff_ne]; omega
  have q2 : ((t[a + 1].toNat : Int) == 116) = false := by rw [beq_eq_false_iff_ne]; omega
  have q4 : ((t[a + 1].toNat : Int) != 120) = false := by rw [bne_eq_false_iff_eq]; omega
  have r2 : decide ((t.size : Int) ≤ (a : Int) + 2) = false := by simp; omega
  have s2 : ¬ ((t.size : Int) ≤ (a : Int) + 2) := by omega
  have u2 : (a : Int) + 2 < (t.size : Int) := by omega
  have r3 : decide ((t.size : Int) ≤ (a : Int) + 3) = false := by simp; omega
  have s3 : ¬ ((t.size : Int) ≤ (a : Int) + 3) := by omega
  have u3 : (a : Int) + 3 < (t.size : Int) := by omega
  clear hI hb0 hw y hn hl hh
  generalize specB cls = sp at *
  go_enter Tryd.func29, Tryd.ntmps29
  go_wp2_with (go_at_call 46; refine (HW1.out _ HB.out).mono ?_; rintro e w1 ⟨rfl, hb1⟩)
  clear HW1 q0 q1 q2 q4 h92 l1 l2 d1 d2 p1 p2
  go_loopw [10, 11] (fun n i wr => (i = .int .i64 ((a : Int) + 2) ∧ n = .int .i64 0 ∨ i = .int .i64 ((a : Int) + 3) ∧ n = .int .i64 z1) ∧ Below W.heap.size W wr) (fun n i _ => a + 4 - (intOf i).toNat)
  case atStart => exact ⟨.inl ⟨by go_num, rfl⟩, hb1⟩
  case round =>
    clear hb1
    obtain ⟨hr, hb⟩ := hrel
    rcases hr with ⟨rfl, rfl⟩ | ⟨rfl, rfl⟩
    · go_wp2_with (first | (go_at_call 47; refine (HX1.out _ (HB.out.trans (hb.mono HB.out.size))).mono ?_; rintro e w2 ⟨rfl, hb2⟩; have hb2' := hb.trans (hb2.mono hb.size)) | (go_at_call 47; refine (HX1.out _ (HB.out.trans (hb2'.mono HB.out.size))).mono ?_; rintro e w3 ⟨rfl, hb3⟩; have hb3' := hb2'.trans (hb3.mono hb2'.size)))
      go_roundw
      case rel => exact ⟨.inr ⟨by go_num, by go_num⟩, by first | exact hb3' | exact hb2'⟩
      case measure => simp [intOf]; omega
    · go_wp2_with (go_at_call 47; refine (HX3.out _ (HB.out.trans (hb.mono HB.out.size))).mono ?_; rintro e w2 ⟨rfl, hb2⟩; have hb2' := hb.trans (hb2.mono hb.size))
      refine bodyPost_ret (v := (.tuple #[.int .u8 0, .int .i64 (a + 3 : Nat), .int .i64 4])) (by simp [results, Tryd.results29, go_sem]) rfl ?_
      first | exact ⟨rfl, hb⟩ | exact ⟨rfl, hb2'⟩

set_option maxRecDepth 100000 in
set_option maxHeartbeats 4000000 in
theorem rs_x4 (cls : Bool) {W0 W : World} (hI : Inv W0) (hb0 : Below W0.heap.size W0 W) (t : ByteArray) (a : Nat) (hs : t.size ≤ 1000000000) (h : a < t.size) (hl : 32 ≤ t[a].toNat) (hh : t[a].toNat ≤ 126) (hn : t[a].toNat = 92) (h2 : a + 1 < t.size) (y : t[a + 1].toNat = 120) (h3 : a + 2 < t.size) (k1 : 0 ≤ hexZ t[a + 2]) (h4 : a + 3 < t.size) (k3 : 0 ≤ hexZ t[a + 3]) :
    Calls Tryd.prog 29 #[.string t, .int .i64 a, .string (specB cls)] W fun e w' => e = .returned (.tuple #[.int .u8 (hexZ t[a + 2] * 16 + hexZ t[a + 3]), .int .i64 (a + 4 : Nat), .int .i64 0]) ∧ Below W.heap.size W w' := by
  have hw := spec_x cls y
  have HW1 := Lib.hid (show ∀ W : World, Below W0.heap.size W0 W → Calls Tryd.prog 46 #[.int .u8 (t[a + 1]).toNat, .string (specB cls)] W fun e w' => e = .returned (.bool false) ∧ Below W.heap.size W w' from fun W hB => by have := within_any cls hI hB (t[a + 1]); rw [hw] at this; exact this)
  obtain ⟨z1, ez1⟩ : ∃ z, hexZ t[a + 2] = z := ⟨_, rfl⟩
  have HX1 := Lib.hid (show ∀ W : World, Below W0.heap.size W0 W → Calls Tryd.prog 47 #[.int .u8 (t[a + 2]).toNat] W fun e w' => e = .returned (.int .i64 z1) ∧ Below W.heap.size W w' from fun W hB => by have := hex_any hI hB (t[a + 2]); rw [ez1] at this; exact this)
  rw [ez1] at k1
  have hz1 := hexZ_lt t[a + 2]
  rw [ez1] at hz1
  (try rw [ez1])
  clear ez1
  have g1 : decide (z1 < 0) = false := by simp; omega
  have g1' : ¬ (z1 < 0) := by omega
  obtain ⟨z3, ez3⟩ : ∃ z, hexZ t[a + 3] = z := ⟨_, rfl⟩
  have HX3 := Lib.hid (show ∀ W : World, Below W0.heap.size W0 W → Calls Tryd.prog 47 #[.int .u8 (t[a + 3]).toNat] W fun e w' => e = .returned (.int .i64 z3) ∧ Below W.heap.size W w' from fun W hB => by have := hex_any hI hB (t[a + 3]); rw [ez3] at this; exact this)
  rw [ez3] at k3
  have hz3 := hexZ_lt t[a + 3]
  rw [ez3] at hz3
  (try rw [ez3])
  clear ez3
  have g3 : decide (z3 < 0) = false := by simp; omega
  have g3' : ¬ (z3 < 0) := by omega
  have HB := Lib.hid hb0
  have d1 : decide ((t.size : Int) ≤ (a : Int)) = false := by simp; omega
  have d2 : ¬ ((t.size : Int) ≤ (a : Int)) := by omega
  have d3 : (a : Int) < (t.size : Int) := by omega
  have l1 : decide ((t[a].toNat : Int) < 32) = false := by simp; omega
  have l2 : decide ((126 : Int) < (t[a].toNat : Int)) = false := by simp; omega
  have h92 : ((t[a].toNat : Int) != 92) = false := by rw [bne_eq_false_iff_eq]; omega
  have p1 : decide ((t.size : Int) ≤ (a : Int) + 1) = false := by simp; omega
  have p2 : ¬ ((t.size : Int) ≤ (a : Int) + 1) := by omega
  have p3 : (a : Int) + 1 < (t.size : Int) := by omega
  have q0 : ((t[a + 1].toNat : Int) == 110) = false := by rw [beq_eq_false_iff_ne]; omega
  have q1 : ((t[a + 1].toNat : Int) == 114) = false := by rw [beq_eq_false_iff_ne]; omega
  have q2 : ((t[a + 1].toNat : Int) == 116) = false := by rw [beq_eq_false_iff_ne]; omega
  have q4 : ((t[a + 1].toNat : Int) != 120) = false := by rw [bne_eq_false_iff_eq]; omega
  have r2 : decide ((t.size : Int) ≤ (a : Int) + 2) = false := by simp; omega
  have s2 : ¬ ((t.size : Int) ≤ (a : Int) + 2) := by omega
  have u2 : (a : Int) + 2 < (t.size : Int) := by omega
  have r3 : decide ((t.size : Int) ≤ (a : Int) + 3) = false := by simp; omega
  have s3 : ¬ ((t.size : Int) ≤ (a : Int) + 3) := by omega
  have u3 : (a : Int) + 3 < (t.size : Int) := by omega
  have hwu : IntKind.u8.wrap (z1 * 16 + z3) = z1 * 16 + z3 := by rw [IntKind.wrap_u8, Int.emod_eq_of_lt (by omega) (by omega)]
  have hwv : (z1 * 16 + z3) % 256 = z1 * 16 + z3 := Int.emod_eq_of_lt (by omega) (by omega)
  clear hI hb0 hw y hn hl hh
  generalize specB cls = sp at *
  go_enter Tryd.func29, Tryd.ntmps29
  go_wp2_with (go_at_call 46; refine (HW1.out _ HB.out).mono ?_; rintro e w1 ⟨rfl, hb1⟩)
  clear HW1 q0 q1 q2 q4 h92 l1 l2 d1 d2 p1 p2
  go_loopw [10, 11] (fun n i wr => (i = .int .i64 ((a : Int) + 2) ∧ n = .int .i64 0 ∨ i = .int .i64 ((a : Int) + 3) ∧ n = .int .i64 z1 ∨ i = .int .i64 ((a : Int) + 4) ∧ n = .int .i64 (z1 * 16 + z3)) ∧ Below W.heap.size W wr) (fun n i _ => a + 4 - (intOf i).toNat)
  case atStart => exact ⟨.inl ⟨by go_num, rfl⟩, hb1⟩
  case round =>
    clear hb1
    obtain ⟨hr, hb⟩ := hrel
    rcases hr with ⟨rfl, rfl⟩ | ⟨rfl, rfl⟩ | ⟨rfl, rfl⟩
    · go_wp2_with (first | (go_at_call 47; refine (HX1.out _ (HB.out.trans (hb.mono HB.out.size))).mono ?_; rintro e w2 ⟨rfl, hb2⟩; have hb2' := hb.trans (hb2.mono hb.size)) | (go_at_call 47; refine (HX1.out _ (HB.out.trans (hb2'.mono HB.out.size))).mono ?_; rintro e w3 ⟨rfl, hb3⟩; have hb3' := hb2'.trans (hb3.mono hb2'.size)))
      go_roundw
      case rel => exact ⟨.inr (.inl ⟨by go_num, by go_num⟩), by first | exact hb3' | exact hb2'⟩
      case measure => simp [intOf]; omega
    · go_wp2_with (first | (go_at_call 47; refine (HX3.out _ (HB.out.trans (hb.mono HB.out.size))).mono ?_; rintro e w2 ⟨rfl, hb2⟩; have hb2' := hb.trans (hb2.mono hb.size)) | (go_at_call 47; refine (HX3.out _ (HB.out.trans (hb2'.mono HB.out.size))).mono ?_; rintro e w3 ⟨rfl, hb3⟩; have hb3' := hb2'.trans (hb3.mono hb2'.size)))
      go_roundw
      case rel => exact ⟨.inr (.inr ⟨by go_num, by go_num⟩), by first | exact hb3' | exact hb2'⟩
      case measure => simp [intOf]; omega
    · go_wp2_with fail
      refine bodyPost_ret (v := (.tuple #[.int .u8 (z1 * 16 + z3), .int .i64 (a + 4 : Nat), .int .i64 0])) (by simp [results, Tryd.results29, go_sem]) rfl ?_
      first | exact ⟨rfl, hb⟩ | exact ⟨rfl, hb2'⟩

end Go.Proofs.YtjaklcmadkpmdaaDoor
end
section
namespace Go.Proofs.YtjaklcmadkpmdaaDoor
open Go Go.RowKit Go.Shelf
set_option linter.unusedSimpArgs false
set_option linter.unusedVariables false

theorem findP_spec (cls : Bool) : ∀ n : Nat, n < 256 → findP (behL cls) n = if n = 110 then some 10 else if n = 114 then some 13 else if n = 116 then some 9 else if (specL cls).contains n then some n else none := by
  have h : ∀ cls : Bool, below (fun n => findP (behL cls) n == (if n = 110 then some 10 else if n = 114 then some 13 else if n = 116 then some 9 else if (specL cls).contains n then some n else none)) 256 = true := fun cls => by cases cls <;> kernel_rfl
  intro n hn
  exact eq_of_beq (below_ok (h cls) n hn)

theorem digit_end {r : Rd} (he : r.e = 0) (h : r.text.size ≤ r.at') : r.digit = (0, r.bad) := by
  have hc : r.cur = none := by unfold Rd.cur; exact Array.getElem?_eq_none (by exact h)
  unfold Rd.digit
  rw [if_neg (by simpa using he), hc]
theorem cur_at {r : Rd} (h : r.at' < r.text.size) : r.cur = some r.text[r.at'] := by unfold Rd.cur; exact Array.getElem?_eq_getElem _
theorem digit_neg {r : Rd} (he : r.e = 0) (h : r.at' < r.text.size) (hz : hexZ r.text[r.at'] < 0) : r.digit = (0, r.bad) := by
  unfold Rd.digit
  rw [if_neg (by simpa using he), cur_at h]
  dsimp only
  rw [if_neg (by omega)]
theorem digit_pos {r : Rd} (he : r.e = 0) (h : r.at' < r.text.size) (hz : 0 ≤ hexZ r.text[r.at']) : r.digit = (hexZ r.text[r.at'], r.up) := by
  unfold Rd.digit
  rw [if_neg (by simpa using he), cur_at h]
  dsimp only
  rw [if_pos hz]
  rfl
theorem digit_bad {r : Rd} (he : r.e ≠ 0) : r.digit = (0, r) := by unfold Rd.digit; rw [if_pos he]
theorem sgV_err {x : UInt8} {r : Rd} : sgV (x, r.bad) = .tuple #[.int .u8 0, .int .i64 r.at', .int .i64 (if r.text.size ≤ r.at' then 8 else 4 : Nat)] := by
  unfold sgV
  rw [if_neg r.bad_e]
  rfl

set_option maxHeartbeats 4000000 in
theorem rsign_any (cls : Bool) {W0 W : World} (hI : Inv W0) (hb0 : Below W0.heap.size W0 W) (r : Rd) (he : r.e = 0) (hat : r.at' ≤ r.text.size) (hs : r.text.size ≤ 1000000000) :
    Calls Tryd.prog 29 #[.string r.text, .int .i64 r.at', .string (specB cls)] W fun e w' => e = .returned (sgV (r.sign cls)) ∧ Below W.heap.size W w' := by
  by_cases h : r.at' < r.text.size
  · have hc := cur_at h
    have hu := UInt8.toNat_lt r.text[r.at']
    by_cases h92 : r.text[r.at'].toNat = 92
    · have hbg : beginsB cls r.text[r.at'] = true := by
        unfold beginsB
        have : ((r.text[r.at'].toNat : Int) == 92) = true := by rw [beq_iff_eq]; omega
        rw [this, Bool.true_or]
      by_cases h2 : r.at' + 1 < r.text.size
      · have hc2 : r.up.cur = some r.text[r.at' + 1] := cur_at (r := r.up) h2
        have hu2 := UInt8.toNat_lt r.text[r.at' + 1]
        by_cases hx : r.text[r.at' + 1].toNat = 120
        · have hn : r.up.next 120 = true := by
            unfold Rd.next
            rw [hc2, beq_iff_eq, Option.some.injEq]
            exact UInt8.toNat_inj.1 hx
          have hS : r.sign cls = (UInt8.ofNat r.up.up.hex.1.toNat, r.up.up.hex.2) := by
            unfold Rd.sign
            rw [hc]
            dsimp only
            rw [if_neg (by rw [hbg]; simp), if_neg (by simpa using h92), if_pos hn]
          rw [hS]
          unfold Rd.hex
          by_cases h3 : r.at' + 2 < r.text.size
          · by_cases k1 : 0 ≤ hexZ r.text[r.at' + 2]
            · rw [digit_pos (r := r.up.up) he h3 k1]
              dsimp only
              by_cases h4 : r.at' + 3 < r.text.size
              · by_cases k3 : 0 ≤ hexZ r.text[r.at' + 3]
                · rw [digit_pos (r := r.up.up.up) he h4 k3]
                  dsimp only
                  have hS := rs_x4 cls hI hb0 r.text r.at' hs h (by omega) (by omega) h92 h2 hx h3 k1 h4 k3
                  rw [sgV_ok (r := r.up.up.up.up) he]
                  have z1 := hexZ_lt r.text[r.at' + 2]
                  have z3 := hexZ_lt r.text[r.at' + 3]
                  have e : ((UInt8.ofNat (16 * hexZ r.up.up.text[r.up.up.at'] + hexZ r.up.up.up.text[r.up.up.up.at']).toNat).toNat : Int) = hexZ r.text[r.at' + 2] * 16 + hexZ r.text[r.at' + 3] := by
                    show ((UInt8.ofNat (16 * hexZ r.text[r.at' + 2] + hexZ r.text[r.at' + 3]).toNat).toNat : Int) = _
                    rw [UInt8.toNat_ofNat']
                    omega
                  rw [e]
                  exact hS
                · have hS := rs_x3 cls hI hb0 r.text r.at' hs h (by omega) (by omega) h92 h2 hx h3 k1 h4 (by omega)
                  rw [digit_neg (r := r.up.up.up) he h4 (by show hexZ r.text[r.at' + 3] < 0; omega)]
                  dsimp only
                  rw [sgV_err, if_neg (by show ¬ r.text.size ≤ r.at' + 3; omega)]
                  exact hS
              · have hS := rs_x2 cls hI hb0 r.text r.at' hs h (by omega) (by omega) h92 h2 hx h3 k1 (by omega)
                rw [digit_end (r := r.up.up.up) he (by show r.text.size ≤ r.at' + 3; omega)]
                dsimp only
                rw [sgV_err, if_pos (by show r.text.size ≤ r.at' + 3; omega), show r.up.up.up.at' = r.text.size by show r.at' + 3 = _; omega]
                exact hS
            · have hS := rs_x1 cls hI hb0 r.text r.at' hs h (by omega) (by omega) h92 h2 hx h3 (by omega)
              rw [digit_neg (r := r.up.up) he h3 (by show hexZ r.text[r.at' + 2] < 0; omega)]
              dsimp only
              rw [digit_bad r.up.up.bad_e]
              dsimp only
              rw [sgV_err, if_neg (by show ¬ r.text.size ≤ r.at' + 2; omega)]
              exact hS
          · have hS := rs_x0 cls hI hb0 r.text r.at' hs h (by omega) (by omega) h92 h2 hx (by omega)
            rw [digit_end (r := r.up.up) he (by show r.text.size ≤ r.at' + 2; omega)]
            dsimp only
            rw [digit_bad r.up.up.bad_e]
            dsimp only
            rw [sgV_err, if_pos (by show r.text.size ≤ r.at' + 2; omega), show r.up.up.at' = r.text.size by show r.at' + 2 = _; omega]
            exact hS
        · have hn : r.up.next 120 = false := by
            unfold Rd.next
            rw [hc2, beq_eq_false_iff_ne]
            intro k
            apply hx
            rw [Option.some.inj k]
            rfl
          have hS : r.sign cls = (match findP (behL cls) r.text[r.at' + 1].toNat with
              | some v => (UInt8.ofNat v, r.up.up)
              | none => (0, r.up.bad)) := by
            unfold Rd.sign
            rw [hc]
            dsimp only
            rw [if_neg (by rw [hbg]; simp), if_neg (by simpa using h92), if_neg (by rw [hn]; simp), hc2]
            rfl
          rw [hS, findP_spec cls _ hu2]
          by_cases n0 : r.text[r.at' + 1].toNat = 110
          · rw [if_pos n0]
            dsimp only
            rw [sgV_ok (r := r.up.up) he]
            exact rs_n cls hI hb0 r.text r.at' hs h (by omega) (by omega) h92 h2 n0
          rw [if_neg n0]
          by_cases n1 : r.text[r.at' + 1].toNat = 114
          · rw [if_pos n1]
            dsimp only
            rw [sgV_ok (r := r.up.up) he]
            exact rs_r cls hI hb0 r.text r.at' hs h (by omega) (by omega) h92 h2 n0 n1
          rw [if_neg n1]
          by_cases n2 : r.text[r.at' + 1].toNat = 116
          · rw [if_pos n2]
            dsimp only
            rw [sgV_ok (r := r.up.up) he]
            exact rs_t cls hI hb0 r.text r.at' hs h (by omega) (by omega) h92 h2 n0 n1 n2
          rw [if_neg n2]
          cases hw : (specL cls).contains r.text[r.at' + 1].toNat
          · rw [if_neg (by simp)]
            dsimp only
            rw [sgV_err, if_neg (by show ¬ r.text.size ≤ r.at' + 1; omega)]
            exact rs_form cls hI hb0 r.text r.at' hs h (by omega) (by omega) h92 h2 n0 n1 n2 hw hx
          · rw [if_pos rfl]
            dsimp only
            rw [sgV_ok (r := r.up.up) he]
            have e : (UInt8.ofNat r.text[r.at' + 1].toNat).toNat = r.text[r.at' + 1].toNat := by rw [UInt8.ofNat_toNat]
            rw [e]
            exact rs_back cls hI hb0 r.text r.at' hs h (by omega) (by omega) h92 h2 n0 n1 n2 hw
      · have hc2 : r.up.cur = none := by unfold Rd.cur; exact Array.getElem?_eq_none (by show r.text.size ≤ r.at' + 1; omega)
        have hn : r.up.next 120 = false := by unfold Rd.next; rw [hc2]; rfl
        have hS : r.sign cls = (0, r.up.bad) := by
          unfold Rd.sign
          rw [hc]
          dsimp only
          rw [if_neg (by rw [hbg]; simp), if_neg (by simpa using h92), if_neg (by rw [hn]; simp), hc2]
        rw [hS, sgV_err, if_pos (by show r.text.size ≤ r.at' + 1; omega), show r.up.at' = r.text.size by show r.at' + 1 = _; omega]
        exact rs_end cls hI hb0 r.text r.at' hs h (by omega) (by omega) h92 (by omega)
    · have hbg : beginsB cls r.text[r.at'] = (decide (32 ≤ r.text[r.at'].toNat) && decide (r.text[r.at'].toNat ≤ 126) && !(specL cls).contains r.text[r.at'].toNat) := by
        rw [← plain_spec cls _ hu h92]
        unfold beginsB plainB
        have : ((r.text[r.at'].toNat : Int) == 92) = false := by rw [beq_eq_false_iff_ne]; omega
        rw [this, Bool.false_or]
      have bad : beginsB cls r.text[r.at'] = false → r.sign cls = (0, r.bad) := fun k => by
        unfold Rd.sign
        rw [hc]
        dsimp only
        rw [if_pos k]
      by_cases hl : r.text[r.at'].toNat < 32
      · rw [bad (by rw [hbg]; simp; omega), sgV_err, if_neg (by omega)]
        exact rs_low cls hI hb0 r.text r.at' hs h hl
      by_cases hh : 126 < r.text[r.at'].toNat
      · rw [bad (by rw [hbg]; simp; omega), sgV_err, if_neg (by omega)]
        exact rs_high cls hI hb0 r.text r.at' hs h hh
      cases hw : (specL cls).contains r.text[r.at'].toNat
      · have hbt : beginsB cls r.text[r.at'] = true := by rw [hbg, hw]; simp; omega
        have hS : r.sign cls = (r.text[r.at'], r.up) := by
          unfold Rd.sign
          rw [hc]
          dsimp only
          rw [if_neg (by rw [hbt]; simp), if_pos h92]
        rw [hS, sgV_ok (r := r.up) he]
        exact rs_bare cls hI hb0 r.text r.at' hs h (by omega) (by omega) h92 hw
      · rw [bad (by rw [hbg, hw]; simp), sgV_err, if_neg (by omega)]
        exact rs_spec cls hI hb0 r.text r.at' hs h (by omega) (by omega) h92 hw
  · have hc : r.cur = none := by unfold Rd.cur; exact Array.getElem?_eq_none (by show r.text.size ≤ r.at'; omega)
    have hS : r.sign cls = (0, r.bad) := by unfold Rd.sign; rw [hc]
    rw [hS, sgV_err, if_pos (by omega), show r.at' = r.text.size by omega]
    exact rs_none cls hI hb0 r.text r.text.size hs (Nat.le_refl _)
end Go.Proofs.YtjaklcmadkpmdaaDoor
end
section
namespace Go.Proofs.YtjaklcmadkpmdaaDoor
open Go Go.RowKit Go.Shelf

theorem u8_of (b : UInt8) : UInt8.ofNat b.toNat = b := by simp
theorem u8_eq {x : UInt8} {y : UInt8} (h : x.toNat = y.toNat) : x = y := UInt8.toNat_inj.1 h
def inR (R : List (UInt8 × UInt8)) (n : Nat) : Bool := R.any fun p => decide (p.1.toNat ≤ n ∧ n ≤ p.2.toNat)
theorem has_rg (x y : UInt8) (n : Nat) (hn : n < 256) : (rg x y).has n = decide (x.toNat ≤ n ∧ n ≤ y.toNat) := by
  unfold rg
  rw [S4.has_ofL _ _ (by intro k hk; have := UInt8.toNat_lt y; rw [List.mem_range'_1] at hk; omega) n hn, S4.has_nil]
  rw [Bool.false_or, decide_eq_decide, List.mem_range'_1]
  omega
theorem ok_rg (x y : UInt8) : (rg x y).ok := S4.ok_ofL _ S4.ok_nil

theorem rs_cov (l : List UInt8) : (∀ p ∈ rs l, p.1.toNat ≤ p.2.toNat) ∧ ∀ n, inR (rs l) n = true ↔ ∃ b ∈ l, b.toNat = n := by
  have key : ∀ (l : List UInt8) (R : List (UInt8 × UInt8)) (k : List UInt8), ((∀ p ∈ R, p.1.toNat ≤ p.2.toNat) ∧ ∀ n, inR R n = true ↔ ∃ b ∈ k, b.toNat = n) →
      (∀ p ∈ l.foldl addRun R, p.1.toNat ≤ p.2.toNat) ∧ ∀ n, inR (l.foldl addRun R) n = true ↔ ∃ b ∈ k ++ l, b.toNat = n := by
    intro l
    induction l with
    | nil => intro R k h; simpa using h
    | cons b l ih =>
      intro R k h
      have e : k ++ b :: l = (k ++ [b]) ++ l := by simp
      rw [List.foldl_cons, e]
      refine ih (addRun R b) (k ++ [b]) ?_
      obtain ⟨h1, h2⟩ := h
      have ext : ∀ n, (∃ c ∈ k ++ [b], c.toNat = n) ↔ ((∃ c ∈ k, c.toNat = n) ∨ b.toNat = n) := by
        intro n
        constructor
        · rintro ⟨c, hc, ec⟩
          rcases List.mem_append.1 hc with hc | hc
          · exact .inl ⟨c, hc, ec⟩
          · rw [List.mem_singleton] at hc; subst hc; exact .inr ec
        · rintro (⟨c, hc, e⟩ | e)
          · exact ⟨c, List.mem_append_left _ hc, e⟩
          · exact ⟨b, by simp, e⟩
      rcases List.eq_nil_or_concat R with rfl | ⟨M, p, rfl⟩
      · rw [addRun_nil]
        refine ⟨by intro q hq; simp at hq; subst hq; exact Nat.le_refl _, fun n => ?_⟩
        rw [ext, ← h2 n]
        simp [inR]
        omega
      · rw [List.concat_eq_append] at h1 h2 ⊢
        by_cases hpb : p.2.toNat + 1 = b.toNat
        · rw [addRun_on _ _ _ hpb]
          have hp := h1 p (by simp)
          refine ⟨?_, fun n => ?_⟩
          · intro q hq
            rcases List.mem_append.1 hq with hq | hq
            · exact h1 q (List.mem_append_left _ hq)
            · simp at hq; subst hq; show p.1.toNat ≤ b.toNat; omega
          · rw [ext, ← h2 n]
            simp only [inR, List.any_append, List.any_cons, List.any_nil, Bool.or_false, Bool.or_eq_true, decide_eq_true_eq]
            constructor
            · rintro (h | h)
              · exact .inl (.inl h)
              · by_cases hn : n = b.toNat
                · exact .inr hn.symm
                · exact .inl (.inr (by omega))
            · rintro ((h | h) | h)
              · exact .inl h
              · exact .inr (by omega)
              · exact .inr (by omega)
        · rw [addRun_new _ _ _ hpb]
          refine ⟨?_, fun n => ?_⟩
          · intro q hq
            rcases List.mem_append.1 hq with hq | hq
            · exact h1 q hq
            · simp at hq; subst hq; exact Nat.le_refl _
          · rw [ext, ← h2 n]
            simp only [inR, List.any_append, List.any_cons, List.any_nil, Bool.or_false, Bool.or_eq_true, decide_eq_true_eq]
            constructor
            · rintro (h | h)
              · exact .inl h
              · exact .inr (by omega)
            · rintro (h | h)
              · exact .inl h
              · exact .inr (by omega)
  have := key l [] [] ⟨by simp, by simp [inR]⟩
  exact this
theorem inR_set (S : S4) (n : Nat) (hn : n < 256) : inR (rs (lstB S)) n = S.has n := by
  rw [Bool.eq_iff_iff, (rs_cov (lstB S)).2 n]
  unfold lstB
  constructor
  · rintro ⟨b, hb, e⟩
    obtain ⟨k, hk, rfl⟩ := List.mem_map.1 hb
    obtain ⟨h1, h2⟩ := S4.mem_lst.1 hk
    have : (UInt8.ofNat k).toNat = k := by simp; omega
    rw [this] at e
    rw [← e]; exact h2
  · intro h
    exact ⟨UInt8.ofNat n, List.mem_map.2 ⟨n, S4.mem_lst.2 ⟨hn, h⟩, rfl⟩, by simp; omega⟩

theorem lstB_rising (S : S4) : (lstB S).Pairwise fun a b => a.toNat < b.toNat := by
  unfold lstB
  rw [List.pairwise_map]
  have h : S.lst.Pairwise (· < ·) := List.Pairwise.filter _ List.pairwise_lt_range
  refine List.Pairwise.imp_of_mem (fun {a b} ha hb hlt => ?_) h
  have h1 := (S4.mem_lst.1 ha).1
  have h2 := (S4.mem_lst.1 hb).1
  have e1 : (UInt8.ofNat a).toNat = a := by simp; omega
  have e2 : (UInt8.ofNat b).toNat = b := by simp; omega
  rw [e1, e2]
  exact hlt
end Go.Proofs.YtjaklcmadkpmdaaDoor
end
section
namespace Go.Proofs.YtjaklcmadkpmdaaDoor
open Go Go.RowKit Go.Shelf

/-- The same stands before both, the one k bytes further on. -/
structure Sim (k : Nat) (r s : Rd) : Prop where
  drop : r.text.data.toList.drop r.at' = s.text.data.toList.drop s.at'
  at_ : r.at' = s.at' + k
  e : r.e = s.e
theorem Sim.cur {k : Nat} {r s : Rd} (h : Sim k r s) : r.cur = s.cur := by
  have h0 := congrArg (fun l => l[0]?) h.drop
  simp only [List.getElem?_drop, Nat.add_zero] at h0
  unfold Rd.cur
  rw [← Array.getElem?_toList, ← Array.getElem?_toList]
  exact h0
theorem Sim.next {k : Nat} {r s : Rd} (h : Sim k r s) (c : UInt8) : r.next c = s.next c := by unfold Rd.next; rw [h.cur]
theorem Sim.begins {k : Nat} {r s : Rd} (h : Sim k r s) (cls : Bool) : r.begins cls = s.begins cls := by unfold Rd.begins; rw [h.cur]
theorem Sim.up {k : Nat} {r s : Rd} (h : Sim k r s) : Sim k r.up s.up :=
  ⟨by
    show r.text.data.toList.drop (r.at' + 1) = s.text.data.toList.drop (s.at' + 1)
    rw [← List.drop_drop, ← List.drop_drop, h.drop], by show r.at' + 1 = s.at' + 1 + k; have := h.at_; omega, h.e⟩
theorem bad_e_cur (r : Rd) : r.bad.e = if r.cur = none then 8 else 4 := by
  unfold Rd.bad
  dsimp only
  by_cases h : r.text.size ≤ r.at'
  · have : r.cur = none := by unfold Rd.cur; exact Array.getElem?_eq_none h
    rw [if_pos h, if_pos this]
  · have : r.cur ≠ none := fun hc => h (cur_none hc)
    rw [if_neg h, if_neg this]
theorem Sim.bad {k : Nat} {r s : Rd} (h : Sim k r s) : Sim k r.bad s.bad := ⟨h.drop, h.at_, by rw [bad_e_cur, bad_e_cur, h.cur]⟩
theorem Sim.digit {k : Nat} {r s : Rd} (h : Sim k r s) : r.digit.1 = s.digit.1 ∧ Sim k r.digit.2 s.digit.2 := by
  unfold Rd.digit
  rw [h.cur, h.e]
  by_cases he : s.e ≠ 0
  · rw [if_pos he, if_pos he]
    exact ⟨rfl, h⟩
  · rw [if_neg he, if_neg he]
    cases hc : s.cur with
    | none => exact ⟨rfl, h.bad⟩
    | some c =>
      dsimp only
      by_cases hz : 0 ≤ hexZ c
      · rw [if_pos hz, if_pos hz]
        exact ⟨rfl, ⟨h.up.drop, h.up.at_, rfl⟩⟩
      · rw [if_neg hz, if_neg hz]
        exact ⟨rfl, h.bad⟩
theorem Sim.sign {k : Nat} {r s : Rd} (h : Sim k r s) (cls : Bool) : (r.sign cls).1 = (s.sign cls).1 ∧ Sim k (r.sign cls).2 (s.sign cls).2 := by
  unfold Rd.sign
  rw [h.cur]
  cases hc : s.cur with
  | none => exact ⟨rfl, h.bad⟩
  | some c =>
    dsimp only
    by_cases hb : beginsB cls c = false
    · rw [if_pos hb, if_pos hb]
      exact ⟨rfl, h.bad⟩
    · rw [if_neg hb, if_neg hb]
      by_cases h92 : c.toNat ≠ 92
      · rw [if_pos h92, if_pos h92]
        exact ⟨rfl, h.up⟩
      · rw [if_neg h92, if_neg h92, h.up.next]
        by_cases hx : s.up.next 120 = true
        · rw [if_pos hx, if_pos hx]
          have d1 := h.up.up.digit
          have d2 := d1.2.digit
          unfold Rd.hex
          dsimp only
          rw [d1.1, d2.1]
          exact ⟨rfl, d2.2⟩
        · rw [if_neg hx, if_neg hx, h.up.cur]
          cases hd : s.up.cur with
          | none => exact ⟨rfl, h.up.bad⟩
          | some d =>
            dsimp only
            cases hf : findP (behL cls) d.toNat with
            | none => exact ⟨rfl, h.up.bad⟩
            | some v => exact ⟨rfl, h.up.up⟩
theorem Sim.expect {k : Nat} {r s : Rd} (h : Sim k r s) (c : UInt8) : Sim k (r.expect c) (s.expect c) := by
  unfold Rd.expect
  rw [h.e, h.next]
  by_cases he : s.e ≠ 0
  · rw [if_pos he, if_pos he]
    exact h
  · rw [if_neg he, if_neg he]
    by_cases hx : s.next c = true
    · rw [if_pos hx, if_pos hx]
      exact ⟨h.up.drop, h.up.at_, rfl⟩
    · rw [if_neg hx, if_neg hx]
      exact h.bad
/-- An item, in words of its two signs. -/
theorem item_eq (r : Rd) : r.item = if (r.sign true).2.e ≠ 0 then ((r.sign true).2, 0, 0)
    else if (r.sign true).2.next 45 = true then
      (if ((r.sign true).2.up.sign true).2.e = 0 ∧ ((r.sign true).2.up.sign true).1.toNat < (r.sign true).1.toNat then ({ ((r.sign true).2.up.sign true).2 with at' := r.at', e := 4 }, 0, 0) else (((r.sign true).2.up.sign true).2, (r.sign true).1, ((r.sign true).2.up.sign true).1))
    else ((r.sign true).2, (r.sign true).1, (r.sign true).1) := by
  unfold Rd.item
  by_cases he : (r.sign true).2.e ≠ 0
  · rw [if_pos he, if_pos he]
  · rw [if_neg he, if_neg he]
    by_cases hn : (r.sign true).2.next 45 = true
    · rw [if_pos hn, if_pos hn]
    · rw [if_neg hn, if_neg hn]
      dsimp only
      rw [if_neg (by rintro ⟨_, k⟩; omega)]
/-- Alike but for what stands before them, which is of no account where something is wrong. -/
structure SimE (k : Nat) (r s : Rd) : Prop where
  at_ : r.at' = s.at' + k
  e : r.e = s.e
theorem Sim.item {k : Nat} {r s : Rd} (h : Sim k r s) : r.item.2 = s.item.2 ∧ SimE k r.item.1 s.item.1 ∧ (s.item.1.e = 0 → Sim k r.item.1 s.item.1) := by
  have h1 := h.sign true
  have h2 := h1.2.up.sign true
  rw [item_eq, item_eq, h1.2.e, h1.2.next, h1.1]
  by_cases he : (s.sign true).2.e ≠ 0
  · rw [if_pos he, if_pos he]
    exact ⟨rfl, ⟨h1.2.at_, h1.2.e⟩, fun _ => h1.2⟩
  · rw [if_neg he, if_neg he]
    by_cases hn : (s.sign true).2.next 45 = true
    · rw [if_pos hn, if_pos hn, h2.1, h2.2.e]
      by_cases hc : ((s.sign true).2.up.sign true).2.e = 0 ∧ ((s.sign true).2.up.sign true).1.toNat < (s.sign true).1.toNat
      · rw [if_pos hc, if_pos hc]
        exact ⟨rfl, ⟨h.at_, rfl⟩, fun k => by dsimp only at k; cases k⟩
      · rw [if_neg hc, if_neg hc]
        exact ⟨rfl, ⟨h2.2.at_, h2.2.e⟩, fun _ => h2.2⟩
    · rw [if_neg hn, if_neg hn]
      exact ⟨rfl, ⟨h1.2.at_, h1.2.e⟩, fun _ => h1.2⟩
theorem Sim.items {k : Nat} : ∀ (n : Nat) {r s : Rd} (S : S4), Sim k r s → (r.items n S).1 = (s.items n S).1 ∧ SimE k (r.items n S).2 (s.items n S).2 ∧ ((s.items n S).2.e = 0 → Sim k (r.items n S).2 (s.items n S).2)
  | 0, r, s, S, h => ⟨rfl, ⟨h.at_, h.e⟩, fun _ => h⟩
  | n + 1, r, s, S, h => by
    obtain ⟨i1, i2, i3⟩ := h.item
    rw [Rd.items, Rd.items, h.e, h.begins]
    by_cases hc : s.e = 0 ∧ s.begins true = true
    · rw [if_pos hc, if_pos hc, i2.e, i1]
      by_cases he : s.item.1.e ≠ 0
      · rw [if_pos he, if_pos he]
        exact ⟨rfl, i2, fun k => absurd k he⟩
      · rw [if_neg he, if_neg he]
        exact Sim.items n _ (i3 (by simpa using he))
    · rw [if_neg hc, if_neg hc]
      exact ⟨rfl, ⟨h.at_, h.e⟩, fun _ => h⟩

end Go.Proofs.YtjaklcmadkpmdaaDoor
end
section
namespace Go.Proofs.YtjaklcmadkpmdaaDoor
open Go.RowKit Go.Shelf

set_option maxHeartbeats 1000000 in
theorem power_any (n : Nat) (hn : n ≤ 63) (w : World) :
    Calls Tryd.prog 60 #[.int .i64 n] w fun e w' => e = .returned (.int .u64 ((2 ^ n : Nat) : Int)) ∧ w = w' := by
  go_enter Tryd.func60, Tryd.ntmps60
  go_wp2
  go_loop [3, 4] (fun p i => ∃ k y : Nat, k ≤ n ∧ i = .int .i64 k ∧ p = .int .u64 y ∧ y = 2 ^ k) (fun _ i => n - (intOf i).toNat)
  case atStart => exact ⟨0, 1, Nat.zero_le _, rfl, rfl, rfl⟩
  case round =>
    obtain ⟨k, y, hk, rfl, rfl, hy⟩ := hrel
    have HY := Lib.hid hy
    have hyb : k < n → y ≤ 4611686018427387904 := fun h => by
      rw [hy, show (4611686018427387904 : Nat) = 2 ^ 62 by decide]
      exact Nat.pow_le_pow_right (by decide) (by omega)
    clear hy
    by_cases hlt : k < n
    · have hyb := hyb hlt
      go_wp2
      go_round
      case rel => exact ⟨k + 1, y * 2, by omega, by go_num, by simp, by rw [HY.out, Nat.pow_succ]⟩
      case measure => simp [intOf]; omega
    · go_wp2
      go_ret
      obtain rfl : k = n := by omega
      refine ⟨?_, rfl⟩
      show Ending.returned (Value.int IntKind.u64 (y : Int)) = Ending.returned (Value.int IntKind.u64 (2 ^ k))
      rw [HY.out]; simp

theorem bit_div (x j y : Nat) (hx : x < 18446744073709551616) (hy : y = 2 ^ j) : ((IntKind.u64.wrap ((x : Int) / (y : Int))).tmod 2 == 1) = x.testBit j := by
  subst hy
  rw [Nat.testBit_eq_decide_div_mod_eq, Bool.eq_iff_iff, beq_iff_eq, decide_eq_true_iff]
  have e : ((x : Int) / ((2 ^ j : Nat) : Int)) = ((x / 2 ^ j : Nat) : Int) := (Int.natCast_ediv x (2 ^ j)).symm
  have hlt : x / 2 ^ j < 18446744073709551616 := Nat.lt_of_le_of_lt (Nat.div_le_self _ _) hx
  rw [e, IntKind.wrap_u64]
  generalize x / 2 ^ j = z at hlt
  rw [Int.emod_eq_of_lt (by omega) (by omega), Int.tmod_eq_emod_of_nonneg (by omega)]
  omega

set_option maxHeartbeats 1000000 in
theorem rhas_0 (s : S4) (hs : s.ok) (b : Nat) (hb : b / 64 = 0) (w : World) :
    Calls Tryd.prog 51 #[s.v, .int .u8 b] w fun e w' => e = .returned (.bool (s.has b)) ∧ Below w.heap.size w w' := by
  obtain ⟨j, hj⟩ : ∃ j, b % 64 = j := ⟨_, rfl⟩
  have hj1 : j ≤ 63 := by omega
  have E : Hid (s.has b = s.a.testBit j) := by
    unfold Hid S4.has S4.w
    rw [hb, hj]; rfl
  rw [E.out]
  obtain ⟨y, hy⟩ : ∃ y, y = 2 ^ j := ⟨_, rfl⟩
  have hy1 : 1 ≤ y := by rw [hy]; exact Nat.one_le_two_pow
  have hy2 : (1 : Int) ≤ (y : Int) := by omega
  have HB := Lib.hid (bit_div s.a j y hs.1 hy)
  have hpw : ∀ W, Calls Tryd.prog 60 #[.int .i64 j] W fun e w' => e = .returned (.int .u64 (y : Int)) ∧ w' = W := fun W => by
    rw [hy]; exact (power_any j hj1 W).mono fun _ _ ⟨h1, h2⟩ => ⟨h1, h2.symm⟩
  have HPW := Lib.hid hpw
  have hq : (b : Int) / 64 = 0 := by omega
  have hr : (b : Int) % 64 = j := by omega
  have hb1 : b < 256 := by omega
  have hj2 : (j : Int) ≤ 63 := by omega
  have hsl : s.a < 18446744073709551616 := hs.1
  clear hb hj hy hpw hs
  go_enter Tryd.func51, Tryd.ntmps51
  go_wp2_with fail
  go_quiet ((go_at_call 60; exact Calls.quiet_of_same (HPW.out _)))
  go_wp2_with fail
  rw [HB.out]
  go_ret
  exact ⟨rfl, below_drewN ((Below.refl _ _).alloc (Nat.le_refl _) _) nq⟩

set_option maxHeartbeats 1000000 in
theorem rhas_1 (s : S4) (hs : s.ok) (b : Nat) (hb : b / 64 = 1) (w : World) :
    Calls Tryd.prog 51 #[s.v, .int .u8 b] w fun e w' => e = .returned (.bool (s.has b)) ∧ Below w.heap.size w w' := by
  obtain ⟨j, hj⟩ : ∃ j, b % 64 = j := ⟨_, rfl⟩
  have hj1 : j ≤ 63 := by omega
  have E : Hid (s.has b = s.b.testBit j) := by
    unfold Hid S4.has S4.w
    rw [hb, hj]; rfl
  rw [E.out]
  obtain ⟨y, hy⟩ : ∃ y, y = 2 ^ j := ⟨_, rfl⟩
  have hy1 : 1 ≤ y := by rw [hy]; exact Nat.one_le_two_pow
  have hy2 : (1 : Int) ≤ (y : Int) := by omega
  have HB := Lib.hid (bit_div s.b j y hs.2.1 hy)
  have hpw : ∀ W, Calls Tryd.prog 60 #[.int .i64 j] W fun e w' => e = .returned (.int .u64 (y : Int)) ∧ w' = W := fun W => by
    rw [hy]; exact (power_any j hj1 W).mono fun _ _ ⟨h1, h2⟩ => ⟨h1, h2.symm⟩
  have HPW := Lib.hid hpw
  have hq : (b : Int) / 64 = 1 := by omega
  have hr : (b : Int) % 64 = j := by omega
  have hb1 : b < 256 := by omega
  have hj2 : (j : Int) ≤ 63 := by omega
  have hsl : s.b < 18446744073709551616 := hs.2.1
  clear hb hj hy hpw hs
  go_enter Tryd.func51, Tryd.ntmps51
  go_wp2_with fail
  go_quiet ((go_at_call 60; exact Calls.quiet_of_same (HPW.out _)))
  go_wp2_with fail
  rw [HB.out]
  go_ret
  exact ⟨rfl, below_drewN ((Below.refl _ _).alloc (Nat.le_refl _) _) nq⟩

set_option maxHeartbeats 1000000 in
theorem rhas_2 (s : S4) (hs : s.ok) (b : Nat) (hb : b / 64 = 2) (w : World) :
    Calls Tryd.prog 51 #[s.v, .int .u8 b] w fun e w' => e = .returned (.bool (s.has b)) ∧ Below w.heap.size w w' := by
  obtain ⟨j, hj⟩ : ∃ j, b % 64 = j := ⟨_, rfl⟩
  have hj1 : j ≤ 63 := by omega
  have E : Hid (s.has b = s.c.testBit j) := by
    unfold Hid S4.has S4.w
    rw [hb, hj]; rfl
  rw [E.out]
  obtain ⟨y, hy⟩ : ∃ y, y = 2 ^ j := ⟨_, rfl⟩
  have hy1 : 1 ≤ y := by rw [hy]; exact Nat.one_le_two_pow
  have hy2 : (1 : Int) ≤ (y : Int) := by omega
  have HB := Lib.hid (bit_div s.c j y hs.2.2.1 hy)
  have hpw : ∀ W, Calls Tryd.prog 60 #[.int .i64 j] W fun e w' => e = .returned (.int .u64 (y : Int)) ∧ w' = W := fun W => by
    rw [hy]; exact (power_any j hj1 W).mono fun _ _ ⟨h1, h2⟩ => ⟨h1, h2.symm⟩
  have HPW := Lib.hid hpw
  have hq : (b : Int) / 64 = 2 := by omega
  have hr : (b : Int) % 64 = j := by omega
  have hb1 : b < 256 := by omega
  have hj2 : (j : Int) ≤ 63 := by omega
  have hsl : s.c < 18446744073709551616 := hs.2.2.1
  clear hb hj hy hpw hs
  go_enter Tryd.func51, Tryd.ntmps51
  go_wp2_with fail
  go_quiet ((go_at_call 60; exact Calls.quiet_of_same (HPW.out _)))
  go_wp2_with fail
  rw [HB.out]
  go_ret
  exact ⟨rfl, below_drewN ((Below.refl _ _).alloc (Nat.le_refl _) _) nq⟩

set_option maxHeartbeats 1000000 in
theorem rhas_3 (s : S4) (hs : s.ok) (b : Nat) (hb : b / 64 = 3) (w : World) :
    Calls Tryd.prog 51 #[s.v, .int .u8 b] w fun e w' => e = .returned (.bool (s.has b)) ∧ Below w.heap.size w w' := by
  obtain ⟨j, hj⟩ : ∃ j, b % 64 = j := ⟨_, rfl⟩
  have hj1 : j ≤ 63 := by omega
  have E : Hid (s.has b = s.d.testBit j) := by
    unfold Hid S4.has S4.w
    rw [hb, hj]; rfl
  rw [E.out]
  obtain ⟨y, hy⟩ : ∃ y, y = 2 ^ j := ⟨_, rfl⟩
  have hy1 : 1 ≤ y := by rw [hy]; exact Nat.one_le_two_pow
  have hy2 : (1 : Int) ≤ (y : Int) := by omega
  have HB := Lib.hid (bit_div s.d j y hs.2.2.2 hy)
  have hpw : ∀ W, Calls Tryd.prog 60 #[.int .i64 j] W fun e w' => e = .returned (.int .u64 (y : Int)) ∧ w' = W := fun W => by
    rw [hy]; exact (power_any j hj1 W).mono fun _ _ ⟨h1, h2⟩ => ⟨h1, h2.symm⟩
  have HPW := Lib.hid hpw
  have hq : (b : Int) / 64 = 3 := by omega
  have hr : (b : Int) % 64 = j := by omega
  have hb1 : b < 256 := by omega
  have hj2 : (j : Int) ≤ 63 := by omega
  have hsl : s.d < 18446744073709551616 := hs.2.2.2
  clear hb hj hy hpw hs
  go_enter Tryd.func51, Tryd.ntmps51
  go_wp2_with fail
  go_quiet ((go_at_call 60; exact Calls.quiet_of_same (HPW.out _)))
  go_wp2_with fail
  rw [HB.out]
  go_ret
  exact ⟨rfl, below_drewN ((Below.refl _ _).alloc (Nat.le_refl _) _) nq⟩

theorem rhas_any (s : S4) (hs : s.ok) (b : Nat) (hb : b < 256) (w : World) :
    Calls Tryd.prog 51 #[s.v, .int .u8 b] w fun e w' => e = .returned (.bool (s.has b)) ∧ Below w.heap.size w w' := by
  have hq : b / 64 = 0 ∨ b / 64 = 1 ∨ b / 64 = 2 ∨ b / 64 = 3 := by omega
  rcases hq with h | h | h | h
  · exact rhas_0 s hs b h w
  · exact rhas_1 s hs b h w
  · exact rhas_2 s hs b h w
  · exact rhas_3 s hs b h w

theorem or_pow_has (x j : Nat) (h : x.testBit j = true) : x ||| 2 ^ j = x := by
  apply Nat.eq_of_testBit_eq
  intro i
  rw [Nat.testBit_or, Nat.testBit_two_pow]
  by_cases hi : j = i
  · subst hi; simp [h]
  · simp [hi]
theorem or_pow_new (x j : Nat) (h : x.testBit j = false) : x ||| 2 ^ j = x + 2 ^ j := by
  have hd : x / 2 ^ j % 2 = 0 := by
    rw [Nat.testBit_eq_decide_div_mod_eq] at h
    have := of_decide_eq_false h
    omega
  have e : x = 2 ^ j * 2 * (x / 2 ^ j / 2) + x % 2 ^ j := by
    have h1 := Nat.div_add_mod x (2 ^ j)
    have h2 := Nat.div_add_mod (x / 2 ^ j) 2
    rw [hd, Nat.add_zero] at h2
    calc x = 2 ^ j * (x / 2 ^ j) + x % 2 ^ j := h1.symm
      _ = 2 ^ j * 2 * (x / 2 ^ j / 2) + x % 2 ^ j := by rw [Nat.mul_assoc, h2]
  have hlt : x % 2 ^ j < 2 ^ j := Nat.mod_lt _ (Nat.two_pow_pos j)
  generalize x / 2 ^ j / 2 = q at e
  generalize x % 2 ^ j = r at e hlt
  subst e
  apply Nat.eq_of_testBit_eq
  intro i
  have e2 : 2 ^ j * 2 * q + r + 2 ^ j = 2 ^ (j + 1) * q + (r + 2 ^ j) := by rw [Nat.pow_succ]; omega
  have e1 : 2 ^ j * 2 * q + r = 2 ^ (j + 1) * q + r := by rw [Nat.pow_succ]
  have hr1 : r < 2 ^ (j + 1) := by rw [Nat.pow_succ]; omega
  have hr2 : r + 2 ^ j < 2 ^ (j + 1) := by rw [Nat.pow_succ]; omega
  rw [Nat.testBit_or, e2, e1, Nat.testBit_two_pow_mul_add _ hr1, Nat.testBit_two_pow_mul_add _ hr2, Nat.testBit_two_pow]
  have hor : r + 2 ^ j = 2 ^ j ||| r := by
    have := Nat.two_pow_add_eq_or_of_lt (i := j) (b := r) hlt 1
    rw [Nat.mul_one] at this
    rw [Nat.add_comm, this]
  rw [hor]
  split
  · rw [Nat.testBit_or, Nat.testBit_two_pow, Bool.or_comm]
  · rename_i h3
    have : ¬ j = i := by omega
    simp [this]

set_option maxHeartbeats 2000000 in
theorem rwith_0 (s : S4) (hs : s.ok) (b : Nat) (hb : b / 64 = 0) (h : s.has b = false) (w : World) :
    Calls Tryd.prog 52 #[s.v, .int .u8 b] w fun e w' => e = .returned (s.wth b).v ∧ Below w.heap.size w w' := by
  obtain ⟨j, hj⟩ : ∃ j, b % 64 = j := ⟨_, rfl⟩
  have hj1 : j ≤ 63 := by omega
  have ht : s.a.testBit j = false := by
    rw [← h]; unfold S4.has S4.w; rw [hb, hj]; rfl
  have hor := or_pow_new s.a j ht
  have hlt : s.a ||| 2 ^ j < 18446744073709551616 := S4.or_pow_lt hs.1 (by omega)
  rw [hor] at hlt
  obtain ⟨y, hy⟩ : ∃ y, y = 2 ^ j := ⟨_, rfl⟩
  have E : Hid (s.wth b = ⟨s.a + y, s.b, s.c, s.d⟩) := by
    unfold Hid
    simp [S4.wth, hb, hj, hor, hy]
  rw [← hy] at hlt
  have hpw : ∀ W, Calls Tryd.prog 60 #[.int .i64 j] W fun e w' => e = .returned (.int .u64 (y : Int)) ∧ W = w' := fun W => by
    rw [hy]; exact power_any j hj1 W
  have HPW := Lib.hid hpw
  have hq : (b : Int) / 64 = 0 := by omega
  have hr : (b : Int) % 64 = j := by omega
  have hb1 : b < 256 := by omega
  have hq2 : Hid ((b : Int).tdiv 64 = 0) := by unfold Hid; rw [Int.tdiv_eq_ediv_of_nonneg (by omega)]; exact hq
  have hr2 : Hid ((b : Int).tmod 64 = j) := by unfold Hid; rw [Int.tmod_eq_emod_of_nonneg (by omega)]; exact hr
  have hj2 : (j : Int) ≤ 63 := by omega
  have hsum : IntKind.u64.wrap ((s.a : Int) + (y : Int)) = ((s.a + y : Nat) : Int) := by rw [IntKind.wrap_u64]; omega
  have HS := Lib.hid hsum
  clear hb hj hy hpw hor ht hsum
  go_enter Tryd.func52, Tryd.ntmps52
  go_wp2_with fail
  refine (rhas_any s hs b hb1 _).mono ?_
  rintro e w1 ⟨rfl, hbw⟩
  rw [h]
  have hB0 := (((Below.refl _ w).alloc (Nat.le_refl _) (.cells #[.int .u64 s.a, .int .u64 s.b, .int .u64 s.c, .int .u64 s.d] 31)).alloc (by simp) (.cells #[.int .u64 0, .int .u64 0, .int .u64 0, .int .u64 0] 31)).trans (hbw.mono (by simp; omega))
  have hX := ((Box4.new w s).alloc (.cells #[.int .u64 0, .int .u64 0, .int .u64 0, .int .u64 0] 31)).below hbw (by simp; omega)
  have hR := Box4.new (w.alloc (.cells #[.int .u64 s.a, .int .u64 s.b, .int .u64 s.c, .int .u64 s.d] 31)) S4.nil
  rw [World.size_alloc] at hR
  have hR : Box4 w1 (w.heap.size + 1) S4.nil := Box4.below hR hbw (by simp)
  clear hbw
  obtain ⟨c0, c1, c2, c3⟩ := hX.cells
  obtain ⟨f0, f1, f2, f3⟩ := hX.free
  obtain ⟨r0, r1, r2, r3⟩ := hR.cells
  obtain ⟨g0, g1, g2, g3⟩ := hR.free
  go_wp2_with fail
  have hwA : IntKind.i64.wrap ((IntKind.i64.wrap (b : Int)).tdiv 64) = 0 := by rw [IntWalk.i64_in (b : Int) (by omega), hq2.out]; decide
  have hwB : (IntKind.i64.wrap (b : Int)).tmod 64 = (j : Int) := by rw [IntWalk.i64_in (b : Int) (by omega), hr2.out]
  go_region_with (go_at_call 60; refine (HPW.out _).mono ?_; rintro e w' ⟨rfl, rfl⟩)
  all_goals
    rw [HS.out]
    clear hwA hwB hq hr hq2 hr2 HS hlt HPW hj1 hj2 hb1 c0 c1 c2 c3 f0 f1 f2 f3 r0 r1 r2 r3 g0 g1 g2 g3
    have hX6 : Box4 (w1.setCell ⟨w.heap.size, 0, none⟩ (.int .u64 ((s.a + y : Nat) : Int))).drew w.heap.size ⟨s.a + y, s.b, s.c, s.d⟩ := set_block hX _
    have hR6 : Box4 (w1.setCell ⟨w.heap.size, 0, none⟩ (.int .u64 ((s.a + y : Nat) : Int))).drew (w.heap.size + 1) S4.nil := Box4.drew (hR.other (by simp) _)
    have hB6 : Below w.heap.size w (w1.setCell ⟨w.heap.size, 0, none⟩ (.int .u64 ((s.a + y : Nat) : Int))).drew := (hB0.setCell (Nat.le_refl _) _).drew
    generalize (w1.setCell ⟨w.heap.size, 0, none⟩ (.int .u64 ((s.a + y : Nat) : Int))).drew = W6 at hX6 hR6 hB6 ⊢
    rw [← E.out] at hX6
    clear E hX hR hB0
    obtain ⟨c0, c1, c2, c3⟩ := hX6.cells
    obtain ⟨r0, r1, r2, r3⟩ := hR6.cells
    obtain ⟨g0, g1, g2, g3⟩ := hR6.free
    go_wp2_with fail
    refine Box4.result (b := w.heap.size + 1) Tryd.results52 rfl rfl (hR6.store (s.wth b)) ⟨rfl, ?_⟩
    exact ((((hB6.setCell (by simp) _).setCell (by simp) _).setCell (by simp) _).setCell (by simp) _)

set_option maxHeartbeats 2000000 in
theorem rwith_1 (s : S4) (hs : s.ok) (b : Nat) (hb : b / 64 = 1) (h : s.has b = false) (w : World) :
    Calls Tryd.prog 52 #[s.v, .int .u8 b] w fun e w' => e = .returned (s.wth b).v ∧ Below w.heap.size w w' := by
  obtain ⟨j, hj⟩ : ∃ j, b % 64 = j := ⟨_, rfl⟩
  have hj1 : j ≤ 63 := by omega
  have ht : s.b.testBit j = false := by
    rw [← h]; unfold S4.has S4.w; rw [hb, hj]; rfl
  have hor := or_pow_new s.b j ht
  have hlt : s.b ||| 2 ^ j < 18446744073709551616 := S4.or_pow_lt hs.2.1 (by omega)
  rw [hor] at hlt
  obtain ⟨y, hy⟩ : ∃ y, y = 2 ^ j := ⟨_, rfl⟩
  have E : Hid (s.wth b = ⟨s.a, s.b + y, s.c, s.d⟩) := by
    unfold Hid
    simp [S4.wth, hb, hj, hor, hy]
  rw [← hy] at hlt
  have hpw : ∀ W, Calls Tryd.prog 60 #[.int .i64 j] W fun e w' => e = .returned (.int .u64 (y : Int)) ∧ W = w' := fun W => by
    rw [hy]; exact power_any j hj1 W
  have HPW := Lib.hid hpw
  have hq : (b : Int) / 64 = 1 := by omega
  have hr : (b : Int) % 64 = j := by omega
  have hb1 : b < 256 := by omega
  have hq2 : Hid ((b : Int).tdiv 64 = 1) := by unfold Hid; rw [Int.tdiv_eq_ediv_of_nonneg (by omega)]; exact hq
  have hr2 : Hid ((b : Int).tmod 64 = j) := by unfold Hid; rw [Int.tmod_eq_emod_of_nonneg (by omega)]; exact hr
  have hj2 : (j : Int) ≤ 63 := by omega
  have hsum : IntKind.u64.wrap ((s.b : Int) + (y : Int)) = ((s.b + y : Nat) : Int) := by rw [IntKind.wrap_u64]; omega
  have HS := Lib.hid hsum
  clear hb hj hy hpw hor ht hsum
  go_enter Tryd.func52, Tryd.ntmps52
  go_wp2_with fail
  refine (rhas_any s hs b hb1 _).mono ?_
  rintro e w1 ⟨rfl, hbw⟩
  rw [h]
  have hB0 := (((Below.refl _ w).alloc (Nat.le_refl _) (.cells #[.int .u64 s.a, .int .u64 s.b, .int .u64 s.c, .int .u64 s.d] 31)).alloc (by simp) (.cells #[.int .u64 0, .int .u64 0, .int .u64 0, .int .u64 0] 31)).trans (hbw.mono (by simp; omega))
  have hX := ((Box4.new w s).alloc (.cells #[.int .u64 0, .int .u64 0, .int .u64 0, .int .u64 0] 31)).below hbw (by simp; omega)
  have hR := Box4.new (w.alloc (.cells #[.int .u64 s.a, .int .u64 s.b, .int .u64 s.c, .int .u64 s.d] 31)) S4.nil
  rw [World.size_alloc] at hR
  have hR : Box4 w1 (w.heap.size + 1) S4.nil := Box4.below hR hbw (by simp)
  clear hbw
  obtain ⟨c0, c1, c2, c3⟩ := hX.cells
  obtain ⟨f0, f1, f2, f3⟩ := hX.free
  obtain ⟨r0, r1, r2, r3⟩ := hR.cells
  obtain ⟨g0, g1, g2, g3⟩ := hR.free
  go_wp2_with fail
  have hwA : IntKind.i64.wrap ((IntKind.i64.wrap (b : Int)).tdiv 64) = 1 := by rw [IntWalk.i64_in (b : Int) (by omega), hq2.out]; decide
  have hwB : (IntKind.i64.wrap (b : Int)).tmod 64 = (j : Int) := by rw [IntWalk.i64_in (b : Int) (by omega), hr2.out]
  go_region_with (go_at_call 60; refine (HPW.out _).mono ?_; rintro e w' ⟨rfl, rfl⟩)
  all_goals
    rw [HS.out]
    clear hwA hwB hq hr hq2 hr2 HS hlt HPW hj1 hj2 hb1 c0 c1 c2 c3 f0 f1 f2 f3 r0 r1 r2 r3 g0 g1 g2 g3
    have hX6 : Box4 (w1.setCell ⟨w.heap.size, 1, none⟩ (.int .u64 ((s.b + y : Nat) : Int))).drew w.heap.size ⟨s.a, s.b + y, s.c, s.d⟩ := set_block hX _
    have hR6 : Box4 (w1.setCell ⟨w.heap.size, 1, none⟩ (.int .u64 ((s.b + y : Nat) : Int))).drew (w.heap.size + 1) S4.nil := Box4.drew (hR.other (by simp) _)
    have hB6 : Below w.heap.size w (w1.setCell ⟨w.heap.size, 1, none⟩ (.int .u64 ((s.b + y : Nat) : Int))).drew := (hB0.setCell (Nat.le_refl _) _).drew
    generalize (w1.setCell ⟨w.heap.size, 1, none⟩ (.int .u64 ((s.b + y : Nat) : Int))).drew = W6 at hX6 hR6 hB6 ⊢
    rw [← E.out] at hX6
    clear E hX hR hB0
    obtain ⟨c0, c1, c2, c3⟩ := hX6.cells
    obtain ⟨r0, r1, r2, r3⟩ := hR6.cells
    obtain ⟨g0, g1, g2, g3⟩ := hR6.free
    go_wp2_with fail
    refine Box4.result (b := w.heap.size + 1) Tryd.results52 rfl rfl (hR6.store (s.wth b)) ⟨rfl, ?_⟩
    exact ((((hB6.setCell (by simp) _).setCell (by simp) _).setCell (by simp) _).setCell (by simp) _)

set_option maxHeartbeats 2000000 in
theorem rwith_2 (s : S4) (hs : s.ok) (b : Nat) (hb : b / 64 = 2) (h : s.has b = false) (w : World) :
    Calls Tryd.prog 52 #[s.v, .int .u8 b] w fun e w' => e = .returned (s.wth b).v ∧ Below w.heap.size w w' := by
  obtain ⟨j, hj⟩ : ∃ j, b % 64 = j := ⟨_, rfl⟩
  have hj1 : j ≤ 63 := by omega
  have ht : s.c.testBit j = false := by
    rw [← h]; unfold S4.has S4.w; rw [hb, hj]; rfl
  have hor := or_pow_new s.c j ht
  have hlt : s.c ||| 2 ^ j < 18446744073709551616 := S4.or_pow_lt hs.2.2.1 (by omega)
  rw [hor] at hlt
  obtain ⟨y, hy⟩ : ∃ y, y = 2 ^ j := ⟨_, rfl⟩
  have E : Hid (s.wth b = ⟨s.a, s.b, s.c + y, s.d⟩) := by
    unfold Hid
    simp [S4.wth, hb, hj, hor, hy]
  rw [← hy] at hlt
  have hpw : ∀ W, Calls Tryd.prog 60 #[.int .i64 j] W fun e w' => e = .returned (.int .u64 (y : Int)) ∧ W = w' := fun W => by
    rw [hy]; exact power_any j hj1 W
  have HPW := Lib.hid hpw
  have hq : (b : Int) / 64 = 2 := by omega
  have hr : (b : Int) % 64 = j := by omega
  have hb1 : b < 256 := by omega
  have hq2 : Hid ((b : Int).tdiv 64 = 2) := by unfold Hid; rw [Int.tdiv_eq_ediv_of_nonneg (by omega)]; exact hq
  have hr2 : Hid ((b : Int).tmod 64 = j) := by unfold Hid; rw [Int.tmod_eq_emod_of_nonneg (by omega)]; exact hr
  have hj2 : (j : Int) ≤ 63 := by omega
  have hsum : IntKind.u64.wrap ((s.c : Int) + (y : Int)) = ((s.c + y : Nat) : Int) := by rw [IntKind.wrap_u64]; omega
  have HS := Lib.hid hsum
  clear hb hj hy hpw hor ht hsum
  go_enter Tryd.func52, Tryd.ntmps52
  go_wp2_with fail
  refine (rhas_any s hs b hb1 _).mono ?_
  rintro e w1 ⟨rfl, hbw⟩
  rw [h]
  have hB0 := (((Below.refl _ w).alloc (Nat.le_refl _) (.cells #[.int .u64 s.a, .int .u64 s.b, .int .u64 s.c, .int .u64 s.d] 31)).alloc (by simp) (.cells #[.int .u64 0, .int .u64 0, .int .u64 0, .int .u64 0] 31)).trans (hbw.mono (by simp; omega))
  have hX := ((Box4.new w s).alloc (.cells #[.int .u64 0, .int .u64 0, .int .u64 0, .int .u64 0] 31)).below hbw (by simp; omega)
  have hR := Box4.new (w.alloc (.cells #[.int .u64 s.a, .int .u64 s.b, .int .u64 s.c, .int .u64 s.d] 31)) S4.nil
  rw [World.size_alloc] at hR
  have hR : Box4 w1 (w.heap.size + 1) S4.nil := Box4.below hR hbw (by simp)
  clear hbw
  obtain ⟨c0, c1, c2, c3⟩ := hX.cells
  obtain ⟨f0, f1, f2, f3⟩ := hX.free
  obtain ⟨r0, r1, r2, r3⟩ := hR.cells
  obtain ⟨g0, g1, g2, g3⟩ := hR.free
  go_wp2_with fail
  have hwA : IntKind.i64.wrap ((IntKind.i64.wrap (b : Int)).tdiv 64) = 2 := by rw [IntWalk.i64_in (b : Int) (by omega), hq2.out]; decide
  have hwB : (IntKind.i64.wrap (b : Int)).tmod 64 = (j : Int) := by rw [IntWalk.i64_in (b : Int) (by omega), hr2.out]
  go_region_with (go_at_call 60; refine (HPW.out _).mono ?_; rintro e w' ⟨rfl, rfl⟩)
  all_goals
    rw [HS.out]
    clear hwA hwB hq hr hq2 hr2 HS hlt HPW hj1 hj2 hb1 c0 c1 c2 c3 f0 f1 f2 f3 r0 r1 r2 r3 g0 g1 g2 g3
    have hX6 : Box4 (w1.setCell ⟨w.heap.size, 2, none⟩ (.int .u64 ((s.c + y : Nat) : Int))).drew w.heap.size ⟨s.a, s.b, s.c + y, s.d⟩ := set_block hX _
    have hR6 : Box4 (w1.setCell ⟨w.heap.size, 2, none⟩ (.int .u64 ((s.c + y : Nat) : Int))).drew (w.heap.size + 1) S4.nil := Box4.drew (hR.other (by simp) _)
    have hB6 : Below w.heap.size w (w1.setCell ⟨w.heap.size, 2, none⟩ (.int .u64 ((s.c + y : Nat) : Int))).drew := (hB0.setCell (Nat.le_refl _) _).drew
    generalize (w1.setCell ⟨w.heap.size, 2, none⟩ (.int .u64 ((s.c + y : Nat) : Int))).drew = W6 at hX6 hR6 hB6 ⊢
    rw [← E.out] at hX6
    clear E hX hR hB0
    obtain ⟨c0, c1, c2, c3⟩ := hX6.cells
    obtain ⟨r0, r1, r2, r3⟩ := hR6.cells
    obtain ⟨g0, g1, g2, g3⟩ := hR6.free
    go_wp2_with fail
    refine Box4.result (b := w.heap.size + 1) Tryd.results52 rfl rfl (hR6.store (s.wth b)) ⟨rfl, ?_⟩
    exact ((((hB6.setCell (by simp) _).setCell (by simp) _).setCell (by simp) _).setCell (by simp) _)

set_option maxHeartbeats 2000000 in
theorem rwith_3 (s : S4) (hs : s.ok) (b : Nat) (hb : b / 64 = 3) (h : s.has b = false) (w : World) :
    Calls Tryd.prog 52 #[s.v, .int .u8 b] w fun e w' => e = .returned (s.wth b).v ∧ Below w.heap.size w w' := by
  obtain ⟨j, hj⟩ : ∃ j, b % 64 = j := ⟨_, rfl⟩
  have hj1 : j ≤ 63 := by omega
  have ht : s.d.testBit j = false := by
    rw [← h]; unfold S4.has S4.w; rw [hb, hj]; rfl
  have hor := or_pow_new s.d j ht
  have hlt : s.d ||| 2 ^ j < 18446744073709551616 := S4.or_pow_lt hs.2.2.2 (by omega)
  rw [hor] at hlt
  obtain ⟨y, hy⟩ : ∃ y, y = 2 ^ j := ⟨_, rfl⟩
  have E : Hid (s.wth b = ⟨s.a, s.b, s.c, s.d + y⟩) := by
    unfold Hid
    simp [S4.wth, hb, hj, hor, hy]
  rw [← hy] at hlt
  have hpw : ∀ W, Calls Tryd.prog 60 #[.int .i64 j] W fun e w' => e = .returned (.int .u64 (y : Int)) ∧ W = w' := fun W => by
    rw [hy]; exact power_any j hj1 W
  have HPW := Lib.hid hpw
  have hq : (b : Int) / 64 = 3 := by omega
  have hr : (b : Int) % 64 = j := by omega
  have hb1 : b < 256 := by omega
  have hq2 : Hid ((b : Int).tdiv 64 = 3) := by unfold Hid; rw [Int.tdiv_eq_ediv_of_nonneg (by omega)]; exact hq
  have hr2 : Hid ((b : Int).tmod 64 = j) := by unfold Hid; rw [Int.tmod_eq_emod_of_nonneg (by omega)]; exact hr
  have hj2 : (j : Int) ≤ 63 := by omega
  have hsum : IntKind.u64.wrap ((s.d : Int) + (y : Int)) = ((s.d + y : Nat) : Int) := by rw [IntKind.wrap_u64]; omega
  have HS := Lib.hid hsum
  clear hb hj hy hpw hor ht hsum
  go_enter Tryd.func52, Tryd.ntmps52
  go_wp2_with fail
  refine (rhas_any s hs b hb1 _).mono ?_
  rintro e w1 ⟨rfl, hbw⟩
  rw [h]
  have hB0 := (((Below.refl _ w).alloc (Nat.le_refl _) (.cells #[.int .u64 s.a, .int .u64 s.b, .int .u64 s.c, .int .u64 s.d] 31)).alloc (by simp) (.cells #[.int .u64 0, .int .u64 0, .int .u64 0, .int .u64 0] 31)).trans (hbw.mono (by simp; omega))
  have hX := ((Box4.new w s).alloc (.cells #[.int .u64 0, .int .u64 0, .int .u64 0, .int .u64 0] 31)).below hbw (by simp; omega)
  have hR := Box4.new (w.alloc (.cells #[.int .u64 s.a, .int .u64 s.b, .int .u64 s.c, .int .u64 s.d] 31)) S4.nil
  rw [World.size_alloc] at hR
  have hR : Box4 w1 (w.heap.size + 1) S4.nil := Box4.below hR hbw (by simp)
  clear hbw
  obtain ⟨c0, c1, c2, c3⟩ := hX.cells
  obtain ⟨f0, f1, f2, f3⟩ := hX.free
  obtain ⟨r0, r1, r2, r3⟩ := hR.cells
  obtain ⟨g0, g1, g2, g3⟩ := hR.free
  go_wp2_with fail
  have hwA : IntKind.i64.wrap ((IntKind.i64.wrap (b : Int)).tdiv 64) = 3 := by rw [IntWalk.i64_in (b : Int) (by omega), hq2.out]; decide
  have hwB : (IntKind.i64.wrap (b : Int)).tmod 64 = (j : Int) := by rw [IntWalk.i64_in (b : Int) (by omega), hr2.out]
  go_region_with (go_at_call 60; refine (HPW.out _).mono ?_; rintro e w' ⟨rfl, rfl⟩)
  all_goals
    rw [HS.out]
    clear hwA hwB hq hr hq2 hr2 HS hlt HPW hj1 hj2 hb1 c0 c1 c2 c3 f0 f1 f2 f3 r0 r1 r2 r3 g0 g1 g2 g3
    have hX6 : Box4 (w1.setCell ⟨w.heap.size, 3, none⟩ (.int .u64 ((s.d + y : Nat) : Int))).drew w.heap.size ⟨s.a, s.b, s.c, s.d + y⟩ := set_block hX _
    have hR6 : Box4 (w1.setCell ⟨w.heap.size, 3, none⟩ (.int .u64 ((s.d + y : Nat) : Int))).drew (w.heap.size + 1) S4.nil := Box4.drew (hR.other (by simp) _)
    have hB6 : Below w.heap.size w (w1.setCell ⟨w.heap.size, 3, none⟩ (.int .u64 ((s.d + y : Nat) : Int))).drew := (hB0.setCell (Nat.le_refl _) _).drew
    generalize (w1.setCell ⟨w.heap.size, 3, none⟩ (.int .u64 ((s.d + y : Nat) : Int))).drew = W6 at hX6 hR6 hB6 ⊢
    rw [← E.out] at hX6
    clear E hX hR hB0
    obtain ⟨c0, c1, c2, c3⟩ := hX6.cells
    obtain ⟨r0, r1, r2, r3⟩ := hR6.cells
    obtain ⟨g0, g1, g2, g3⟩ := hR6.free
    go_wp2_with fail
    refine Box4.result (b := w.heap.size + 1) Tryd.results52 rfl rfl (hR6.store (s.wth b)) ⟨rfl, ?_⟩
    exact ((((hB6.setCell (by simp) _).setCell (by simp) _).setCell (by simp) _).setCell (by simp) _)

set_option maxHeartbeats 1000000 in
theorem rwith_same (s : S4) (hs : s.ok) (b : Nat) (hb1 : b < 256) (h : s.has b = true) (w : World) :
    Calls Tryd.prog 52 #[s.v, .int .u8 b] w fun e w' => e = .returned s.v ∧ Below w.heap.size w w' := by
  go_enter Tryd.func52, Tryd.ntmps52
  go_wp2_with fail
  refine (rhas_any s hs b hb1 _).mono ?_
  rintro e w1 ⟨rfl, hbw⟩
  rw [h]
  have hB0 := (((Below.refl _ w).alloc (Nat.le_refl _) (.cells #[.int .u64 s.a, .int .u64 s.b, .int .u64 s.c, .int .u64 s.d] 31)).alloc (by simp) (.cells #[.int .u64 0, .int .u64 0, .int .u64 0, .int .u64 0] 31)).trans (hbw.mono (by simp; omega))
  have hX := ((Box4.new w s).alloc (.cells #[.int .u64 0, .int .u64 0, .int .u64 0, .int .u64 0] 31)).below hbw (by simp; omega)
  have hR := Box4.new (w.alloc (.cells #[.int .u64 s.a, .int .u64 s.b, .int .u64 s.c, .int .u64 s.d] 31)) S4.nil
  rw [World.size_alloc] at hR
  have hR : Box4 w1 (w.heap.size + 1) S4.nil := Box4.below hR hbw (by simp)
  clear hbw
  obtain ⟨c0, c1, c2, c3⟩ := hX.cells
  obtain ⟨r0, r1, r2, r3⟩ := hR.cells
  obtain ⟨g0, g1, g2, g3⟩ := hR.free
  go_wp2_with fail
  refine Box4.result (b := w.heap.size + 1) Tryd.results52 rfl rfl (hR.store s) ⟨rfl, ?_⟩
  exact (((hB0.setCell (by simp) _).setCell (by simp) _).setCell (by simp) _).setCell (by simp) _

theorem wth_same (s : S4) (hs : s.ok) (b : Nat) (hb : b < 256) (h : s.has b = true) : s.wth b = s := by
  refine S4.ext (S4.ok_wth hs b) hs fun n hn => ?_
  rw [S4.has_wth s hb hn]
  by_cases e : n = b
  · subst e; simp [h]
  · simp [e]
theorem rwith_any (s : S4) (hs : s.ok) (b : Nat) (hb : b < 256) (w : World) :
    Calls Tryd.prog 52 #[s.v, .int .u8 b] w fun e w' => e = .returned (s.wth b).v ∧ Below w.heap.size w w' := by
  cases h : s.has b with
  | true => rw [wth_same s hs b hb h]; exact rwith_same s hs b hb h w
  | false =>
    have hq : b / 64 = 0 ∨ b / 64 = 1 ∨ b / 64 = 2 ∨ b / 64 = 3 := by omega
    rcases hq with h1 | h1 | h1 | h1
    · exact rwith_0 s hs b h1 h w
    · exact rwith_1 s hs b h1 h w
    · exact rwith_2 s hs b h1 h w
    · exact rwith_3 s hs b h1 h w
end Go.Proofs.YtjaklcmadkpmdaaDoor
end
section
namespace Go.Proofs.YtjaklcmadkpmdaaDoor
open Go.RowKit Go.Shelf

/-- The bytes below k for which it is so. -/
def fl (p : Nat → Bool) (k : Nat) : S4 := S4.nil.ofL ((List.range k).filter p)
theorem ok_fl (p : Nat → Bool) (k : Nat) : (fl p k).ok := S4.ok_ofL _ S4.ok_nil
theorem fl_zero (p : Nat → Bool) : fl p 0 = S4.nil := rfl
theorem fl_yes (p : Nat → Bool) (k : Nat) (h : p k = true) : fl p (k + 1) = (fl p k).wth k := by
  unfold fl
  rw [List.range_succ, List.filter_append, List.filter_cons_of_pos h, List.filter_nil, S4.ofL_snoc]
theorem fl_no (p : Nat → Bool) (k : Nat) (h : p k = false) : fl p (k + 1) = fl p k := by
  unfold fl
  rw [List.range_succ, List.filter_append, List.filter_cons_of_neg (by rw [h]; decide), List.filter_nil, List.append_nil]
theorem has_fl (p : Nat → Bool) {n : Nat} (hn : n < 256) : (fl p 256).has n = p n := by
  unfold fl
  rw [S4.has_ofL _ _ (by intro m hm; simp at hm; exact hm.1) n hn, S4.has_nil]
  cases h : p n <;> simp [hn, h]
theorem fl_eq (p : Nat → Bool) {s : S4} (hs : s.ok) (h : ∀ n, n < 256 → s.has n = p n) : fl p 256 = s :=
  S4.ext (ok_fl p 256) hs fun n hn => by rw [has_fl p hn, h n hn]

/-- What a loop over two sets carries: their boxes, the result's, the one in the making; and what was there before. -/
def InvH (w : World) (s t o : S4) (W : World) : Prop := Box4 W w.heap.size s ∧ Box4 W (w.heap.size + 1) t ∧ Box4 W (w.heap.size + 1 + 1) S4.nil ∧ Box4 W (w.heap.size + 1 + 1 + 1) o ∧ Below w.heap.size w W
theorem InvH.step {w W W' : World} {s t o : S4} (h : InvH w s t o W) (hb : Below W.heap.size W W') : InvH w s t o W' :=
  ⟨h.1.below hb h.1.lt, h.2.1.below hb h.2.1.lt, h.2.2.1.below hb h.2.2.1.lt, h.2.2.2.1.below hb h.2.2.2.1.lt, bstep h.2.2.2.2 hb⟩
theorem InvH.store {w W : World} {s t o : S4} (h : InvH w s t o W) (u : S4) : InvH w s t u ((((W.setCell ⟨w.heap.size + 1 + 1 + 1, 0, none⟩ (.int .u64 u.a)).setCell ⟨w.heap.size + 1 + 1 + 1, 1, none⟩ (.int .u64 u.b)).setCell ⟨w.heap.size + 1 + 1 + 1, 2, none⟩ (.int .u64 u.c)).setCell ⟨w.heap.size + 1 + 1 + 1, 3, none⟩ (.int .u64 u.d)) := by
  obtain ⟨h1, h2, h3, h4, h5⟩ := h
  have e1 : w.heap.size ≠ w.heap.size + 1 + 1 + 1 := by omega
  have e2 : w.heap.size + 1 ≠ w.heap.size + 1 + 1 + 1 := by omega
  have e3 : w.heap.size + 1 + 1 ≠ w.heap.size + 1 + 1 + 1 := by omega
  have e4 : w.heap.size ≤ w.heap.size + 1 + 1 + 1 := by omega
  exact ⟨(((h1.other e1 _).other e1 _).other e1 _).other e1 _, (((h2.other e2 _).other e2 _).other e2 _).other e2 _, (((h3.other e3 _).other e3 _).other e3 _).other e3 _, h4.store u, (((h5.setCell e4 _).setCell e4 _).setCell e4 _).setCell e4 _⟩

set_option maxRecDepth 100000 in
set_option maxHeartbeats 4000000 in
theorem ror_fl (s t : S4) (hs : s.ok) (ht : t.ok) (w : World) :
    Calls Tryd.prog 36 #[s.v, t.v] w fun e w' => e = .returned (fl (fun n => s.has n || t.has n) 256).v ∧ Below w.heap.size w w' := by
  obtain ⟨P, hP⟩ : ∃ P : Nat → Bool, P = fun n => s.has n || t.has n := ⟨_, rfl⟩
  rw [← hP]
  have hPa : ∀ n, P n = (s.has n || t.has n) := fun n => by rw [hP]
  have HP := Lib.hid hPa
  clear hP hPa
  go_enter Tryd.func36, Tryd.ntmps36
  go_wp2_with fail
  have hbs := ((Box4.new w s).alloc (.cells #[.int .u64 t.a, .int .u64 t.b, .int .u64 t.c, .int .u64 t.d] 31))
  have hbt := Box4.new (w.alloc (.cells #[.int .u64 s.a, .int .u64 s.b, .int .u64 s.c, .int .u64 s.d] 31)) t
  have hbr := Box4.new ((w.alloc (.cells #[.int .u64 s.a, .int .u64 s.b, .int .u64 s.c, .int .u64 s.d] 31)).alloc (.cells #[.int .u64 t.a, .int .u64 t.b, .int .u64 t.c, .int .u64 t.d] 31)) S4.nil
  have hbo := Box4.new (((w.alloc (.cells #[.int .u64 s.a, .int .u64 s.b, .int .u64 s.c, .int .u64 s.d] 31)).alloc (.cells #[.int .u64 t.a, .int .u64 t.b, .int .u64 t.c, .int .u64 t.d] 31)).alloc (.cells #[.int .u64 0, .int .u64 0, .int .u64 0, .int .u64 0] 31)) S4.nil
  have hB : Below w.heap.size w ((((w.alloc (.cells #[.int .u64 s.a, .int .u64 s.b, .int .u64 s.c, .int .u64 s.d] 31)).alloc (.cells #[.int .u64 t.a, .int .u64 t.b, .int .u64 t.c, .int .u64 t.d] 31)).alloc (.cells #[.int .u64 0, .int .u64 0, .int .u64 0, .int .u64 0] 31)).alloc (.cells #[.int .u64 0, .int .u64 0, .int .u64 0, .int .u64 0] 31)) := ((((Below.refl _ w).alloc (Nat.le_refl _) _).alloc (by simp) _).alloc (by simp; omega) _).alloc (by simp; omega) _
  have hbs := (hbs.alloc (.cells #[.int .u64 0, .int .u64 0, .int .u64 0, .int .u64 0] 31)).alloc (.cells #[.int .u64 0, .int .u64 0, .int .u64 0, .int .u64 0] 31)
  have hbt := (hbt.alloc (.cells #[.int .u64 0, .int .u64 0, .int .u64 0, .int .u64 0] 31)).alloc (.cells #[.int .u64 0, .int .u64 0, .int .u64 0, .int .u64 0] 31)
  have hbr : Box4 _ _ S4.nil := Box4.alloc hbr (.cells #[.int .u64 0, .int .u64 0, .int .u64 0, .int .u64 0] 31)
  simp only [World.size_alloc] at hbt hbr hbo
  go_loopw [6] (fun i wr => ∃ k : Nat, k ≤ 256 ∧ i = .int .i64 k ∧ InvH w s t (fl P k) wr)
    (fun i _ => 256 - (intOf i).toNat)
  case atStart => exact ⟨0, by omega, rfl, ⟨hbs, hbt, hbr, hbo, hB⟩⟩
  case round =>
    clear hbs hbt hbr hbo hB
    obtain ⟨k, hk, rfl, hI⟩ := hrel
    by_cases hlt : k < 256
    · obtain ⟨x0, x1, x2, x3⟩ := hI.1.cells
      have hyes := Lib.hid (fl_yes P k)
      have hno := Lib.hid (fl_no P k)
      cases h1 : s.has k <;> cases h2 : t.has k
      all_goals
        have hPk := HP.out k
        rw [h1, h2] at hPk
        have HPk := Lib.hid hPk
        clear hPk
        go_wp2_with (first
          | (go_at_call 51; refine (rhas_any _ (by first | exact hs | exact ht) k hlt _).mono ?_; rintro e w1 ⟨rfl, hb⟩; have hI := InvH.step (by exact hI) hb; clear hb; obtain ⟨x0, x1, x2, x3⟩ := hI.1.cells; obtain ⟨y0, y1, y2, y3⟩ := hI.2.1.cells; obtain ⟨o0, o1, o2, o3⟩ := hI.2.2.2.1.cells)
          | (go_at_call 52; refine (rwith_any (fl P k) (ok_fl P k) k hlt _).mono ?_; rintro e w1 ⟨rfl, hb⟩; have hI := InvH.step (by exact hI) hb; clear hb; obtain ⟨o0, o1, o2, o3⟩ := hI.2.2.2.1.cells; obtain ⟨f0, f1, f2, f3⟩ := hI.2.2.2.1.free))
        go_roundw
        case rel =>
          first
            | exact ⟨k + 1, by omega, by go_num, by rw [hyes.out (HPk.out.trans rfl)]; exact hI.store _⟩
            | exact ⟨k + 1, by omega, by go_num, by rw [hno.out (HPk.out.trans rfl)]; exact hI⟩
        case measure => simp [intOf]; omega
    · obtain ⟨hS, hT, hR, hO, hB⟩ := hI
      obtain ⟨o0, o1, o2, o3⟩ := hO.cells
      obtain ⟨r0, r1, r2, r3⟩ := hR.cells
      obtain ⟨f0, f1, f2, f3⟩ := hR.free
      obtain rfl : k = 256 := by omega
      go_wp2
      refine Box4.result (b := w.heap.size + 1 + 1) Tryd.results36 rfl rfl (hR.store (fl P 256)) ⟨rfl, ?_⟩
      exact (((hB.setCell (by simp; omega) _).setCell (by simp; omega) _).setCell (by simp; omega) _).setCell (by simp; omega) _

set_option maxRecDepth 100000 in
set_option maxHeartbeats 4000000 in
theorem rminus_fl (s t : S4) (hs : s.ok) (ht : t.ok) (w : World) :
    Calls Tryd.prog 53 #[s.v, t.v] w fun e w' => e = .returned (fl (fun n => s.has n && !t.has n) 256).v ∧ Below w.heap.size w w' := by
  obtain ⟨P, hP⟩ : ∃ P : Nat → Bool, P = fun n => s.has n && !t.has n := ⟨_, rfl⟩
  rw [← hP]
  have hPa : ∀ n, P n = (s.has n && !t.has n) := fun n => by rw [hP]
  have HP := Lib.hid hPa
  clear hP hPa
  go_enter Tryd.func53, Tryd.ntmps53
  go_wp2_with fail
  have hbs := ((Box4.new w s).alloc (.cells #[.int .u64 t.a, .int .u64 t.b, .int .u64 t.c, .int .u64 t.d] 31))
  have hbt := Box4.new (w.alloc (.cells #[.int .u64 s.a, .int .u64 s.b, .int .u64 s.c, .int .u64 s.d] 31)) t
  have hbr := Box4.new ((w.alloc (.cells #[.int .u64 s.a, .int .u64 s.b, .int .u64 s.c, .int .u64 s.d] 31)).alloc (.cells #[.int .u64 t.a, .int .u64 t.b, .int .u64 t.c, .int .u64 t.d] 31)) S4.nil
  have hbo := Box4.new (((w.alloc (.cells #[.int .u64 s.a, .int .u64 s.b, .int .u64 s.c, .int .u64 s.d] 31)).alloc (.cells #[.int .u64 t.a, .int .u64 t.b, .int .u64 t.c, .int .u64 t.d] 31)).alloc (.cells #[.int .u64 0, .int .u64 0, .int .u64 0, .int .u64 0] 31)) S4.nil
  have hB : Below w.heap.size w ((((w.alloc (.cells #[.int .u64 s.a, .int .u64 s.b, .int .u64 s.c, .int .u64 s.d] 31)).alloc (.cells #[.int .u64 t.a, .int .u64 t.b, .int .u64 t.c, .int .u64 t.d] 31)).alloc (.cells #[.int .u64 0, .int .u64 0, .int .u64 0, .int .u64 0] 31)).alloc (.cells #[.int .u64 0, .int .u64 0, .int .u64 0, .int .u64 0] 31)) := ((((Below.refl _ w).alloc (Nat.le_refl _) _).alloc (by simp) _).alloc (by simp; omega) _).alloc (by simp; omega) _
  have hbs := (hbs.alloc (.cells #[.int .u64 0, .int .u64 0, .int .u64 0, .int .u64 0] 31)).alloc (.cells #[.int .u64 0, .int .u64 0, .int .u64 0, .int .u64 0] 31)
  have hbt := (hbt.alloc (.cells #[.int .u64 0, .int .u64 0, .int .u64 0, .int .u64 0] 31)).alloc (.cells #[.int .u64 0, .int .u64 0, .int .u64 0, .int .u64 0] 31)
  have hbr : Box4 _ _ S4.nil := Box4.alloc hbr (.cells #[.int .u64 0, .int .u64 0, .int .u64 0, .int .u64 0] 31)
  simp only [World.size_alloc] at hbt hbr hbo
  go_loopw [6] (fun i wr => ∃ k : Nat, k ≤ 256 ∧ i = .int .i64 k ∧ InvH w s t (fl P k) wr)
    (fun i _ => 256 - (intOf i).toNat)
  case atStart => exact ⟨0, by omega, rfl, ⟨hbs, hbt, hbr, hbo, hB⟩⟩
  case round =>
    clear hbs hbt hbr hbo hB
    obtain ⟨k, hk, rfl, hI⟩ := hrel
    by_cases hlt : k < 256
    · obtain ⟨x0, x1, x2, x3⟩ := hI.1.cells
      have hyes := Lib.hid (fl_yes P k)
      have hno := Lib.hid (fl_no P k)
      cases h1 : s.has k <;> cases h2 : t.has k
      all_goals
        have hPk := HP.out k
        rw [h1, h2] at hPk
        have HPk := Lib.hid hPk
        clear hPk
        go_wp2_with (first
          | (go_at_call 51; refine (rhas_any _ (by first | exact hs | exact ht) k hlt _).mono ?_; rintro e w1 ⟨rfl, hb⟩; have hI := InvH.step (by exact hI) hb; clear hb; obtain ⟨x0, x1, x2, x3⟩ := hI.1.cells; obtain ⟨y0, y1, y2, y3⟩ := hI.2.1.cells; obtain ⟨o0, o1, o2, o3⟩ := hI.2.2.2.1.cells)
          | (go_at_call 52; refine (rwith_any (fl P k) (ok_fl P k) k hlt _).mono ?_; rintro e w1 ⟨rfl, hb⟩; have hI := InvH.step (by exact hI) hb; clear hb; obtain ⟨o0, o1, o2, o3⟩ := hI.2.2.2.1.cells; obtain ⟨f0, f1, f2, f3⟩ := hI.2.2.2.1.free))
        go_roundw
        case rel =>
          first
            | exact ⟨k + 1, by omega, by go_num, by rw [hyes.out (HPk.out.trans rfl)]; exact hI.store _⟩
            | exact ⟨k + 1, by omega, by go_num, by rw [hno.out (HPk.out.trans rfl)]; exact hI⟩
        case measure => simp [intOf]; omega
    · obtain ⟨hS, hT, hR, hO, hB⟩ := hI
      obtain ⟨o0, o1, o2, o3⟩ := hO.cells
      obtain ⟨r0, r1, r2, r3⟩ := hR.cells
      obtain ⟨f0, f1, f2, f3⟩ := hR.free
      obtain rfl : k = 256 := by omega
      go_wp2
      refine Box4.result (b := w.heap.size + 1 + 1) Tryd.results53 rfl rfl (hR.store (fl P 256)) ⟨rfl, ?_⟩
      exact (((hB.setCell (by simp; omega) _).setCell (by simp; omega) _).setCell (by simp; omega) _).setCell (by simp; omega) _
set_option maxRecDepth 100000 in
set_option maxHeartbeats 4000000 in
theorem rrange_fl (a b : Nat) (ha : a < 256) (hb : b < 256) (w : World) :
    Calls Tryd.prog 37 #[.int .u8 a, .int .u8 b] w fun e w' => e = .returned (fl (fun n => decide (a ≤ n) && decide (n ≤ b)) 256).v ∧ Below w.heap.size w w' := by
  obtain ⟨P, hP⟩ : ∃ P : Nat → Bool, P = fun n => decide (a ≤ n) && decide (n ≤ b) := ⟨_, rfl⟩
  rw [← hP]
  have hPa : ∀ n, P n = (decide (a ≤ n) && decide (n ≤ b)) := fun n => by rw [hP]
  have HP := Lib.hid hPa
  clear hP hPa
  go_enter Tryd.func37, Tryd.ntmps37
  go_wp2_with fail
  have hbr := Box4.new w S4.nil
  have hbo := Box4.new (w.alloc (.cells #[.int .u64 0, .int .u64 0, .int .u64 0, .int .u64 0] 31)) S4.nil
  rw [World.size_alloc] at hbo
  have hbr : Box4 _ _ S4.nil := Box4.alloc hbr (.cells #[.int .u64 0, .int .u64 0, .int .u64 0, .int .u64 0] 31)
  have hB : Below w.heap.size w ((w.alloc (.cells #[.int .u64 0, .int .u64 0, .int .u64 0, .int .u64 0] 31)).alloc (.cells #[.int .u64 0, .int .u64 0, .int .u64 0, .int .u64 0] 31)) := ((Below.refl _ w).alloc (Nat.le_refl _) _).alloc (by simp) _
  go_loopw [6] (fun i wr => ∃ k : Nat, k ≤ 256 ∧ i = .int .i64 k ∧ Box4 wr w.heap.size S4.nil ∧ Box4 wr (w.heap.size + 1) (fl P k) ∧ Below w.heap.size w wr)
    (fun i _ => 256 - (intOf i).toNat)
  case atStart => exact ⟨0, by omega, rfl, hbr, hbo, hB⟩
  case round =>
    clear hbr hbo hB
    obtain ⟨k, hk, rfl, hR, hO, hB⟩ := hrel
    by_cases hlt : k < 256
    · obtain ⟨o0, o1, o2, o3⟩ := hO.cells
      have hyes := Lib.hid (fl_yes P k)
      have hno := Lib.hid (fl_no P k)
      have hPk := HP.out k
      by_cases h1 : a ≤ k
      · by_cases h2 : k ≤ b
        · rw [decide_eq_true h1, decide_eq_true h2] at hPk
          have HPk := Lib.hid hPk
          clear hPk
          go_wp2_with fail
          refine (rwith_any (fl P k) (ok_fl P k) k hlt _).mono ?_
          rintro e w1 ⟨rfl, hb1⟩
          have hR1 := hR.below hb1 hR.lt
          have hO1 := hO.below hb1 hO.lt
          have hB1 := bstep hB hb1
          clear hR hO hB hb1 o0 o1 o2 o3
          obtain ⟨o0, o1, o2, o3⟩ := hO1.cells
          obtain ⟨f0, f1, f2, f3⟩ := hO1.free
          go_wp2
          go_roundw
          case rel =>
            refine ⟨k + 1, by omega, by go_num, ?_, ?_, ?_⟩
            · exact (((hR1.other (by simp) _).other (by simp) _).other (by simp) _).other (by simp) _
            · rw [hyes.out (HPk.out.trans rfl)]; exact hO1.store _
            · exact (((hB1.setCell (by simp) _).setCell (by simp) _).setCell (by simp) _).setCell (by simp) _
          case measure => simp [intOf]; omega
        · rw [decide_eq_true h1, decide_eq_false h2] at hPk
          have HPk := Lib.hid hPk
          clear hPk
          go_wp2
          go_roundw
          case rel => exact ⟨k + 1, by omega, by go_num, hR, by rw [hno.out (HPk.out.trans rfl)]; exact hO, hB⟩
          case measure => simp [intOf]; omega
      · rw [decide_eq_false h1] at hPk
        have HPk := Lib.hid (hPk.trans (Bool.false_and _))
        clear hPk
        go_wp2
        go_roundw
        case rel => exact ⟨k + 1, by omega, by go_num, hR, by rw [hno.out HPk.out]; exact hO, hB⟩
        case measure => simp [intOf]; omega
    · obtain ⟨o0, o1, o2, o3⟩ := hO.cells
      obtain ⟨r0, r1, r2, r3⟩ := hR.cells
      obtain ⟨f0, f1, f2, f3⟩ := hR.free
      obtain rfl : k = 256 := by omega
      go_wp2
      refine Box4.result (b := w.heap.size) Tryd.results37 rfl rfl (hR.store (fl P 256)) ⟨rfl, ?_⟩
      exact (((hB.setCell (by simp) _).setCell (by simp) _).setCell (by simp) _).setCell (by simp) _
theorem all_fl : fl (fun n => decide (0 ≤ n) && decide (n ≤ 255)) 256 = S4.nil.not :=
  fl_eq _ (S4.ok_not S4.ok_nil) fun n hn => by
    rw [S4.has_not S4.ok_nil, S4.has_nil]
    have : n ≤ 255 := by omega
    simp [this]
set_option maxHeartbeats 1000000 in
theorem rall_any (w : World) :
    Calls Tryd.prog 54 #[] w fun e w' => e = .returned (S4.nil.not).v ∧ Below w.heap.size w w' := by
  have h := fun w => rrange_fl 0 255 (by decide) (by decide) w
  rw [all_fl] at h
  go_enter Tryd.func54, Tryd.ntmps54
  go_wp2_with fail
  refine (h _).mono ?_
  rintro e w1 ⟨rfl, hb⟩
  have hsz := hb.size
  simp only [World.size_alloc] at hb hsz
  obtain ⟨hc, hf⟩ := bcell hb
  go_wp2
  have hx := (((Box4.new w S4.nil).below hb (by simp)).store S4.nil.not)
  refine Box4.result (b := w.heap.size) Tryd.results54 rfl rfl hx ⟨rfl, ?_⟩
  exact ((((((Below.refl _ w).alloc (Nat.le_refl _) _).trans (hb.mono (by simp))).setCell (Nat.le_refl _) _).setCell (Nat.le_refl _) _).setCell (Nat.le_refl _) _).setCell (Nat.le_refl _) _
theorem rminus_all (s : S4) (hs : s.ok) : fl (fun n => S4.nil.not.has n && !s.has n) 256 = s.not :=
  fl_eq _ (S4.ok_not hs) fun n hn => by
    rw [S4.has_not hs, S4.has_not S4.ok_nil, S4.has_nil]; simp
theorem ror_eq {s t : S4} (hs : s.ok) (ht : t.ok) : fl (fun n => s.has n || t.has n) 256 = s.or t := fl_eq _ (S4.ok_or hs ht) fun n _ => S4.has_or s t n
theorem rminus_eq {s t : S4} (hs : s.ok) (ht : t.ok) : fl (fun n => s.has n && !t.has n) 256 = s.minus t := fl_eq _ (S4.ok_minus hs ht) fun n _ => S4.has_minus s ht n
theorem rrange_eq (a b : Nat) (hb : b < 256) : fl (fun n => decide (a ≤ n) && decide (n ≤ b)) 256 = S4.nil.ofL (List.range' a (b + 1 - a)) :=
  fl_eq _ (S4.ok_ofL _ S4.ok_nil) fun n hn => by
    rw [S4.has_ofL _ _ (by intro m hm; simp at hm; omega) n hn, S4.has_nil]
    by_cases h1 : a ≤ n <;> by_cases h2 : n ≤ b
    · have h3 : n < a + (b + 1 - a) := by omega
      simp [h1, h2, h3]
    · have h3 : ¬ n < a + (b + 1 - a) := by omega
      simp [h1, h2, h3]
    · simp [h1]
    · simp [h1]
theorem ror_any (s t : S4) (hs : s.ok) (ht : t.ok) (w : World) :
    Calls Tryd.prog 36 #[s.v, t.v] w fun e w' => e = .returned (s.or t).v ∧ Below w.heap.size w w' := by rw [← ror_eq hs ht]; exact ror_fl s t hs ht w
theorem rminus_any (s t : S4) (hs : s.ok) (ht : t.ok) (w : World) :
    Calls Tryd.prog 53 #[s.v, t.v] w fun e w' => e = .returned (s.minus t).v ∧ Below w.heap.size w w' := by rw [← rminus_eq hs ht]; exact rminus_fl s t hs ht w
theorem rrange_any (a b : Nat) (ha : a < 256) (hb : b < 256) (w : World) :
    Calls Tryd.prog 37 #[.int .u8 a, .int .u8 b] w fun e w' => e = .returned (S4.nil.ofL (List.range' a (b + 1 - a))).v ∧ Below w.heap.size w w' := by rw [← rrange_eq a b hb]; exact rrange_fl a b ha hb w

set_option maxHeartbeats 1000000 in
theorem rnot_any (s : S4) (hs : s.ok) (w : World) :
    Calls Tryd.prog 38 #[s.v] w fun e w' => e = .returned (s.not).v ∧ Below w.heap.size w w' := by
  have h := fun w => rminus_fl S4.nil.not s (S4.ok_not S4.ok_nil) hs w
  rw [rminus_all s hs] at h
  go_enter Tryd.func38, Tryd.ntmps38
  go_wp2_with fail
  have hbs := Box4.new w s
  have hbr := Box4.new (w.alloc (.cells #[.int .u64 s.a, .int .u64 s.b, .int .u64 s.c, .int .u64 s.d] 31)) S4.nil
  have hbs := hbs.alloc (.cells #[.int .u64 0, .int .u64 0, .int .u64 0, .int .u64 0] 31)
  rw [World.size_alloc] at hbr
  have hB : Below w.heap.size w ((w.alloc (.cells #[.int .u64 s.a, .int .u64 s.b, .int .u64 s.c, .int .u64 s.d] 31)).alloc (.cells #[.int .u64 0, .int .u64 0, .int .u64 0, .int .u64 0] 31)) := ((Below.refl _ w).alloc (Nat.le_refl _) _).alloc (by simp) _
  generalize hw0 : (w.alloc (.cells #[.int .u64 s.a, .int .u64 s.b, .int .u64 s.c, .int .u64 s.d] 31)).alloc (.cells #[.int .u64 0, .int .u64 0, .int .u64 0, .int .u64 0] 31) = w0
  have hbr : Box4 w0 (w.heap.size + 1) S4.nil := by rw [← hw0]; exact hbr
  rw [hw0] at hbs hB
  clear hw0
  obtain ⟨x0, x1, x2, x3⟩ := hbs.cells
  have hl1 := hbs.lt
  have hl2 := hbr.lt
  go_region_with (first
    | (go_at_call 54; refine (rall_any _).mono ?_; rintro e w1 ⟨rfl, hb⟩; have hsz := hb.size; obtain ⟨y0, y1, y2, y3⟩ := (Box4.below (W := w0.drew) (by exact hbs) hb (by exact hbs.lt)).cells)
    | (go_at_call 53; refine (h _).mono ?_; rintro e w2 ⟨rfl, hb2⟩; have hbr2 := (Box4.below (W := w0.drew) (by exact hbr) hb (by exact hbr.lt)).below hb2 (by exact Nat.lt_of_lt_of_le hbr.lt hb.size); obtain ⟨f0, f1, f2, f3⟩ := hbr2.free; obtain ⟨o0, o1, o2, o3⟩ := hbr2.cells))
  all_goals
    go_wp2
    refine Box4.result (b := w.heap.size + 1) Tryd.results38 rfl rfl (hbr2.store s.not) ⟨rfl, ?_⟩
    have hB2 : Below w.heap.size w w2 := bstep (bstep (hB.drew) hb) hb2
    exact (((hB2.setCell (by simp) _).setCell (by simp) _).setCell (by simp) _).setCell (by simp) _

end Go.Proofs.YtjaklcmadkpmdaaDoor
end
