/- The document's own small functions, worked out for each byte. -/
import Derived.Test.YtjaklcmadkpmdaaDoorCeAF
import Derived.Test.YtjaklcmadkpmdaaDoorQuoY
namespace Go.Proofs.YtjaklcmadkpmdaaDoor
open Go Go.RowKit Go.Shelf
set_option linter.unusedSimpArgs false
set_option linter.unusedVariables false

/-- What has a backslash ahead of itself, as the document lists it. -/
def specL (cls : Bool) : List Nat := if cls then [93, 45, 94, 92] else [34, 92]
def specB (cls : Bool) : ByteArray := CE.bytesOf (specL cls)
def isB (o : Option Bool) (v : Bool) : Bool := match o with | some x => x == v | none => false
theorem isB_ok {o : Option Bool} {v : Bool} (h : isB o v = true) : o = some v := by
  unfold isB at h
  split at h
  · rw [eq_of_beq h]
  · cases h
noncomputable def withinRun (cls : Bool) (b : Nat) : Option Bool := CE.boolOfR (CE.runArgs Tryd.prog 100000 400 46 [.c (.int .u8 b), .c (.str (specL cls))] (CE.obsOf Tryd.prog laidT))
set_option maxRecDepth 1000000 in
theorem withins_lit : below (fun b => isB (withinRun false b) ((specL false).contains b)) 256 = true := by kernel_rfl
set_option maxRecDepth 1000000 in
theorem withins_cls : below (fun b => isB (withinRun true b) ((specL true).contains b)) 256 = true := by kernel_rfl
theorem within_any (cls : Bool) {W0 W : World} (h : Inv W0) (hb : Below W0.heap.size W0 W) (c : UInt8) :
    Calls Tryd.prog 46 #[.int .u8 c.toNat, .string (specB cls)] W fun e W' => e = .returned (.bool ((specL cls).contains c.toNat)) ∧ Below W.heap.size W W' := by
  have hr : withinRun cls c.toNat = some ((specL cls).contains c.toNat) := by
    cases cls
    · exact isB_ok (below_ok withins_lit _ (UInt8.toNat_lt _))
    · exact isB_ok (below_ok withins_cls _ (UInt8.toNat_lt _))
  exact CE.call_bool_at (args := [.c (.int .u8 c.toNat), .c (.str (specL cls))]) (vals := [.int .u8 c.toNat, .string (specB cls)]) h.shaped h.laid hb.size hb.block (by kernel_rfl) (.inr (by kernel_rfl)) (fun ρ => ⟨rfl, ⟨rfl, by cases cls <;> decide⟩, trivial⟩) hr
noncomputable def hexRun (b : Nat) : Option (IntKind × Int) := CE.intOfR (CE.runArgs Tryd.prog 100000 400 47 [.c (.int .u8 b)] (CE.obsOf Tryd.prog laidT))
set_option maxRecDepth 1000000 in
theorem hexs_all : below (fun b => isNum (hexRun b) (placeOf (smallB b) hexL 0)) 256 = true := by kernel_rfl
theorem hex_any {W0 W : World} (h : Inv W0) (hb : Below W0.heap.size W0 W) (c : UInt8) :
    Calls Tryd.prog 47 #[.int .u8 c.toNat] W fun e W' => e = .returned (.int .i64 (hexZ c)) ∧ Below W.heap.size W W' :=
  CE.call_int_at (args := [.c (.int .u8 c.toNat)]) (vals := [.int .u8 c.toNat]) h.shaped h.laid hb.size hb.block (by kernel_rfl) (.inr (by kernel_rfl)) (fun ρ => ⟨rfl, trivial⟩) (isNum_ok (below_ok hexs_all c.toNat (UInt8.toNat_lt _)))
noncomputable def rsignRun (cls : Bool) (b : Nat) : Option (List Nat) := CE.strOf (CE.runArgs Tryd.prog 100000 400 30 [.c (.int .u8 b), .c (.str (specL cls))] (CE.obsOf Tryd.prog laidT))
set_option maxRecDepth 1000000 in
theorem rsigns_lit : below (fun b => isStr (rsignRun false b) (sgn false b)) 256 = true := by kernel_rfl
set_option maxRecDepth 1000000 in
theorem rsigns_cls : below (fun b => isStr (rsignRun true b) (sgn true b)) 256 = true := by kernel_rfl
theorem rSign_any (cls : Bool) {W0 W : World} (h : Inv W0) (hb : Below W0.heap.size W0 W) (b : UInt8) :
    Calls Tryd.prog 30 #[.int .u8 b.toNat, .string (specB cls)] W fun e W' => e = .returned (.string (sgnB cls b.toNat)) ∧ Below W.heap.size W W' := by
  have hr : rsignRun cls b.toNat = some (sgn cls b.toNat) := by
    cases cls
    · exact isStr_ok (below_ok rsigns_lit _ (UInt8.toNat_lt _))
    · exact isStr_ok (below_ok rsigns_cls _ (UInt8.toNat_lt _))
  exact CE.call_str_at (args := [.c (.int .u8 b.toNat), .c (.str (specL cls))]) (vals := [.int .u8 b.toNat, .string (specB cls)]) h.shaped h.laid hb.size hb.block (by kernel_rfl) (.inr (by kernel_rfl)) (fun ρ => ⟨rfl, ⟨rfl, by cases cls <;> decide⟩, trivial⟩) hr

/-- Of a byte that is no backslash: what the reader takes for plain is what the document takes. -/
theorem plain_spec (cls : Bool) : ∀ n : Nat, n < 256 → n ≠ 92 → ((decide (32 ≤ (n : Int)) && (decide ((n : Int) ≤ 126) && decide (placeOf n (bareL cls) 0 < 0))) = (decide (32 ≤ n) && decide (n ≤ 126) && !(specL cls).contains n)) := by
  have h : ∀ cls : Bool, below (fun n => n == 92 || ((decide (32 ≤ (n : Int)) && (decide ((n : Int) ≤ 126) && decide (placeOf n (bareL cls) 0 < 0))) == (decide (32 ≤ n) && decide (n ≤ 126) && !(specL cls).contains n))) 256 = true := fun cls => by cases cls <;> kernel_rfl
  intro n hn h92
  have := below_ok (h cls) n hn
  simpa [h92] using this
end Go.Proofs.YtjaklcmadkpmdaaDoor
