/- sign: what is written for a byte, worked out for each of them. -/
import Derived.Test.YtjaklcmadkpmdaaDoorCeAD
import Derived.Test.YtjaklcmadkpmdaaDoorQuoL
namespace Go.Proofs.YtjaklcmadkpmdaaDoor
open Go Go.RowKit

/-- What has a backslash ahead of itself: within a literal, within a class. -/
def bareL (cls : Bool) : List Nat := if cls then [92, 93, 45, 94] else [92, 34]
def hexD (n : Nat) : Nat := if n < 10 then 48 + n else 87 + n
/-- The sign of a byte. -/
def sgn (cls : Bool) (b : Nat) : List Nat :=
  if b = 10 then [92, 110] else if b = 13 then [92, 114] else if b = 9 then [92, 116] else if (bareL cls).contains b then [92, b]
  else if b < 32 || b > 126 then [92, 120, hexD (b / 16), hexD (b % 16)] else [b]

def natsEq : List Nat → List Nat → Bool
  | [], [] => true
  | x :: xs, y :: ys => Nat.beq x y && natsEq xs ys
  | _, _ => false
theorem natsEq_ok : ∀ {l m : List Nat}, natsEq l m = true → l = m
  | [], [], _ => rfl
  | x :: xs, y :: ys, h => by
    rw [natsEq, Bool.and_eq_true] at h
    rw [Nat.eq_of_beq_eq_true h.1, natsEq_ok h.2]
  | [], _ :: _, h => by cases h
  | _ :: _, [], h => by cases h
def isStr (o : Option (List Nat)) (l : List Nat) : Bool := match o with | some s => natsEq s l | none => false
theorem isStr_ok {o : Option (List Nat)} {l : List Nat} (h : isStr o l = true) : o = some l := by
  unfold isStr at h
  split at h
  · rw [natsEq_ok h]
  · cases h

noncomputable def signRun (cls : Bool) (b : Nat) : Option (List Nat) := CE.strOf (CE.runArgs Tryd.prog 100000 400 24 [.c (.int .u8 b), .c (.str (bareL cls))] (CE.obsOf Tryd.prog laidT))
def below (p : Nat → Bool) : Nat → Bool := Nat.rec true (fun n r => p n && r)
theorem below_ok {p : Nat → Bool} : ∀ {n : Nat}, below p n = true → ∀ b, b < n → p b = true
  | n + 1, h, b, hb => by
    have h : (p n && below p n) = true := h
    rw [Bool.and_eq_true] at h
    rcases Nat.lt_succ_iff_lt_or_eq.1 hb with h1 | rfl
    · exact below_ok h.2 b h1
    · exact h.1

set_option maxRecDepth 1000000 in
theorem signs_lit : below (fun b => isStr (signRun false b) (sgn false b)) 256 = true := by kernel_rfl
set_option maxRecDepth 1000000 in
theorem signs_cls : below (fun b => isStr (signRun true b) (sgn true b)) 256 = true := by kernel_rfl

/-- The text of a byte's sign. -/
def sgnB (cls : Bool) (b : Nat) : ByteArray := CE.bytesOf (sgn cls b)
def bareB (cls : Bool) : ByteArray := CE.bytesOf (bareL cls)

theorem sign_any (cls : Bool) {W0 W : World} (h : Inv W0) (hb : Below W0.heap.size W0 W) (b : Nat) (hlt : b < 256) :
    Calls Tryd.prog 24 #[.int .u8 b, .string (bareB cls)] W fun e W' => e = .returned (.string (sgnB cls b)) ∧ Below W.heap.size W W' := by
  have hr : signRun cls b = some (sgn cls b) := by
    cases cls
    · exact isStr_ok (below_ok signs_lit b hlt)
    · exact isStr_ok (below_ok signs_cls b hlt)
  exact CE.call_str_at (args := [.c (.int .u8 b), .c (.str (bareL cls))]) (vals := [.int .u8 b, .string (bareB cls)]) h.shaped h.laid hb.size hb.block (by kernel_rfl) (.inr (by kernel_rfl)) (fun ρ => ⟨rfl, ⟨rfl, by cases cls <;> decide⟩, trivial⟩) hr
end Go.Proofs.YtjaklcmadkpmdaaDoor
