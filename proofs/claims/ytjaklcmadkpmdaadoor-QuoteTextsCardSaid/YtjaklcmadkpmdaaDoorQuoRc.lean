/- The document's sign: the reader's. -/
import Derived.Test.YtjaklcmadkpmdaaDoorQuoRa
import Derived.LoopTactic
section
namespace Go.Proofs.YtjaklcmadkpmdaaDoor
open Go Go.RowKit Go.Shelf
set_option linter.unusedSimpArgs false
set_option linter.unusedVariables false

/-- What the document's sign tells, of what the reader's comes to. -/
def sgV (p : UInt8 × Rd) : Value := if p.2.e = 0 then .tuple #[.int .u8 p.1.toNat, .int .i64 p.2.at', .int .i64 0] else .tuple #[.int .u8 0, .int .i64 p.2.at', .int .i64 p.2.e]
theorem sgV_bad (r : Rd) : sgV (0, r.bad) = .tuple #[.int .u8 0, .int .i64 r.at', .int .i64 (if r.text.size ≤ r.at' then 8 else 4 : Nat)] := by
  unfold sgV
  rw [if_neg r.bad_e]
  rfl
theorem sgV_ok {x : UInt8} {r : Rd} (h : r.e = 0) : sgV (x, r) = .tuple #[.int .u8 x.toNat, .int .i64 r.at', .int .i64 0] := by
  unfold sgV
  rw [if_pos h]

set_option maxRecDepth 100000 in
set_option maxHeartbeats 4000000 in
theorem rs_none (cls : Bool) {W0 W : World} (hI : Inv W0) (hb0 : Below W0.heap.size W0 W) (t : ByteArray) (a : Nat) (hs : t.size ≤ 1000000000) (h : t.size ≤ a) :
    Calls Tryd.prog 29 #[.string t, .int .i64 a, .string (specB cls)] W fun e w' => e = .returned (.tuple #[.int .u8 0, .int .i64 t.size, .int .i64 8]) ∧ Below W.heap.size W w' := by
  have HB := Lib.hid hb0
  have d1 : decide ((t.size : Int) ≤ (a : Int)) = true := by simp; omega
  have d2 : (t.size : Int) ≤ (a : Int) := by omega
  clear hI hb0
  generalize specB cls = sp at *
  go_enter Tryd.func29, Tryd.ntmps29
  go_wp2_with fail
  refine bodyPost_ret (v := (.tuple #[.int .u8 0, .int .i64 t.size, .int .i64 8])) (by simp [results, Tryd.results29, go_sem]) rfl ?_
  first | exact ⟨rfl, Below.refl _ _⟩ | exact ⟨rfl, hb1⟩

set_option maxRecDepth 100000 in
set_option maxHeartbeats 4000000 in
theorem rs_low (cls : Bool) {W0 W : World} (hI : Inv W0) (hb0 : Below W0.heap.size W0 W) (t : ByteArray) (a : Nat) (hs : t.size ≤ 1000000000) (h : a < t.size) (hl : t[a].toNat < 32) :
    Calls Tryd.prog 29 #[.string t, .int .i64 a, .string (specB cls)] W fun e w' => e = .returned (.tuple #[.int .u8 0, .int .i64 a, .int .i64 4]) ∧ Below W.heap.size W w' := by
  have HB := Lib.hid hb0
  have d1 : decide ((t.size : Int) ≤ (a : Int)) = false := by simp; omega
  have d2 : ¬ ((t.size : Int) ≤ (a : Int)) := by omega
  have d3 : (a : Int) < (t.size : Int) := by omega
  have l1 : decide ((t[a].toNat : Int) < 32) = true := by simp; omega
  clear hI hb0
  generalize specB cls = sp at *
  go_enter Tryd.func29, Tryd.ntmps29
  go_wp2_with fail
  refine bodyPost_ret (v := (.tuple #[.int .u8 0, .int .i64 a, .int .i64 4])) (by simp [results, Tryd.results29, go_sem]) rfl ?_
  first | exact ⟨rfl, Below.refl _ _⟩ | exact ⟨rfl, hb1⟩

set_option maxRecDepth 100000 in
set_option maxHeartbeats 4000000 in
theorem rs_high (cls : Bool) {W0 W : World} (hI : Inv W0) (hb0 : Below W0.heap.size W0 W) (t : ByteArray) (a : Nat) (hs : t.size ≤ 1000000000) (h : a < t.size) (hl : 126 < t[a].toNat) :
    Calls Tryd.prog 29 #[.string t, .int .i64 a, .string (specB cls)] W fun e w' => e = .returned (.tuple #[.int .u8 0, .int .i64 a, .int .i64 4]) ∧ Below W.heap.size W w' := by
  have HB := Lib.hid hb0
  have d1 : decide ((t.size : Int) ≤ (a : Int)) = false := by simp; omega
  have d2 : ¬ ((t.size : Int) ≤ (a : Int)) := by omega
  have d3 : (a : Int) < (t.size : Int) := by omega
  have l1 : decide ((t[a].toNat : Int) < 32) = false := by simp; omega
  have l2 : decide ((126 : Int) < (t[a].toNat : Int)) = true := by simp; omega
  clear hI hb0
  generalize specB cls = sp at *
  go_enter Tryd.func29, Tryd.ntmps29
  go_wp2_with fail
  refine bodyPost_ret (v := (.tuple #[.int .u8 0, .int .i64 a, .int .i64 4])) (by simp [results, Tryd.results29, go_sem]) rfl ?_
  first | exact ⟨rfl, Below.refl _ _⟩ | exact ⟨rfl, hb1⟩

set_option maxRecDepth 100000 in
set_option maxHeartbeats 4000000 in
theorem rs_spec (cls : Bool) {W0 W : World} (hI : Inv W0) (hb0 : Below W0.heap.size W0 W) (t : ByteArray) (a : Nat) (hs : t.size ≤ 1000000000) (h : a < t.size) (hl : 32 ≤ t[a].toNat) (hh : t[a].toNat ≤ 126) (hn : t[a].toNat ≠ 92) (hw : (specL cls).contains t[a].toNat = true) :
    Calls Tryd.prog 29 #[.string t, .int .i64 a, .string (specB cls)] W fun e w' => e = .returned (.tuple #[.int .u8 0, .int .i64 a, .int .i64 4]) ∧ Below W.heap.size W w' := by
  have HW1 := Lib.hid (show ∀ W : World, Below W0.heap.size W0 W → Calls Tryd.prog 46 #[.int .u8 (t[a]).toNat, .string (specB cls)] W fun e w' => e = .returned (.bool true) ∧ Below W.heap.size W w' from fun W hB => by have := within_any cls hI hB (t[a]); rw [hw] at this; exact this)
  have HB := Lib.hid hb0
  have d1 : decide ((t.size : Int) ≤ (a : Int)) = false := by simp; omega
  have d2 : ¬ ((t.size : Int) ≤ (a : Int)) := by omega
  have d3 : (a : Int) < (t.size : Int) := by omega
  have l1 : decide ((t[a].toNat : Int) < 32) = false := by simp; omega
  have l2 : decide ((126 : Int) < (t[a].toNat : Int)) = false := by simp; omega
  have h92 : ((t[a].toNat : Int) != 92) = true := by rw [bne_iff_ne]; omega
  clear hI hb0
  generalize specB cls = sp at *
  go_enter Tryd.func29, Tryd.ntmps29
  go_wp2_with (go_at_call 46; refine (HW1.out _ HB.out).mono ?_; rintro e w1 ⟨rfl, hb1⟩)
  refine bodyPost_ret (v := (.tuple #[.int .u8 0, .int .i64 a, .int .i64 4])) (by simp [results, Tryd.results29, go_sem]) rfl ?_
  first | exact ⟨rfl, Below.refl _ _⟩ | exact ⟨rfl, hb1⟩

set_option maxRecDepth 100000 in
set_option maxHeartbeats 4000000 in
theorem rs_bare (cls : Bool) {W0 W : World} (hI : Inv W0) (hb0 : Below W0.heap.size W0 W) (t : ByteArray) (a : Nat) (hs : t.size ≤ 1000000000) (h : a < t.size) (hl : 32 ≤ t[a].toNat) (hh : t[a].toNat ≤ 126) (hn : t[a].toNat ≠ 92) (hw : (specL cls).contains t[a].toNat = false) :
    Calls Tryd.prog 29 #[.string t, .int .i64 a, .string (specB cls)] W fun e w' => e = .returned (.tuple #[.int .u8 t[a].toNat, .int .i64 (a + 1 : Nat), .int .i64 0]) ∧ Below W.heap.size W w' := by
  have HW1 := Lib.hid (show ∀ W : World, Below W0.heap.size W0 W → Calls Tryd.prog 46 #[.int .u8 (t[a]).toNat, .string (specB cls)] W fun e w' => e = .returned (.bool false) ∧ Below W.heap.size W w' from fun W hB => by have := within_any cls hI hB (t[a]); rw [hw] at this; exact this)
  have HB := Lib.hid hb0
  have d1 : decide ((t.size : Int) ≤ (a : Int)) = false := by simp; omega
  have d2 : ¬ ((t.size : Int) ≤ (a : Int)) := by omega
  have d3 : (a : Int) < (t.size : Int) := by omega
  have l1 : decide ((t[a].toNat : Int) < 32) = false := by simp; omega
  have l2 : decide ((126 : Int) < (t[a].toNat : Int)) = false := by simp; omega
  have h92 : ((t[a].toNat : Int) != 92) = true := by rw [bne_iff_ne]; omega
  clear hI hb0
  generalize specB cls = sp at *
  go_enter Tryd.func29, Tryd.ntmps29
  go_wp2_with (go_at_call 46; refine (HW1.out _ HB.out).mono ?_; rintro e w1 ⟨rfl, hb1⟩)
  refine bodyPost_ret (v := (.tuple #[.int .u8 t[a].toNat, .int .i64 (a + 1 : Nat), .int .i64 0])) (by simp [results, Tryd.results29, go_sem]) rfl ?_
  first | exact ⟨rfl, Below.refl _ _⟩ | exact ⟨rfl, hb1⟩

set_option maxRecDepth 100000 in
set_option maxHeartbeats 4000000 in
theorem rs_end (cls : Bool) {W0 W : World} (hI : Inv W0) (hb0 : Below W0.heap.size W0 W) (t : ByteArray) (a : Nat) (hs : t.size ≤ 1000000000) (h : a < t.size) (hl : 32 ≤ t[a].toNat) (hh : t[a].toNat ≤ 126) (hn : t[a].toNat = 92) (he : t.size ≤ a + 1) :
    Calls Tryd.prog 29 #[.string t, .int .i64 a, .string (specB cls)] W fun e w' => e = .returned (.tuple #[.int .u8 0, .int .i64 t.size, .int .i64 8]) ∧ Below W.heap.size W w' := by
  have HB := Lib.hid hb0
  have d1 : decide ((t.size : Int) ≤ (a : Int)) = false := by simp; omega
  have d2 : ¬ ((t.size : Int) ≤ (a : Int)) := by omega
  have d3 : (a : Int) < (t.size : Int) := by omega
  have l1 : decide ((t[a].toNat : Int) < 32) = false := by simp; omega
  have l2 : decide ((126 : Int) < (t[a].toNat : Int)) = false := by simp; omega
  have h92 : ((t[a].toNat : Int) != 92) = false := by rw [bne_eq_false_iff_eq]; omega
  have p1 : decide ((t.size : Int) ≤ (a : Int) + 1) = true := by simp; omega
  have p2 : (t.size : Int) ≤ (a : Int) + 1 := by omega
  clear hI hb0
  generalize specB cls = sp at *
  go_enter Tryd.func29, Tryd.ntmps29
  go_wp2_with fail
  refine bodyPost_ret (v := (.tuple #[.int .u8 0, .int .i64 t.size, .int .i64 8])) (by simp [results, Tryd.results29, go_sem]) rfl ?_
  first | exact ⟨rfl, Below.refl _ _⟩ | exact ⟨rfl, hb1⟩

set_option maxRecDepth 100000 in
set_option maxHeartbeats 4000000 in
theorem rs_n (cls : Bool) {W0 W : World} (hI : Inv W0) (hb0 : Below W0.heap.size W0 W) (t : ByteArray) (a : Nat) (hs : t.size ≤ 1000000000) (h : a < t.size) (hl : 32 ≤ t[a].toNat) (hh : t[a].toNat ≤ 126) (hn : t[a].toNat = 92) (h2 : a + 1 < t.size) (y : t[a + 1].toNat = 110) :
    Calls Tryd.prog 29 #[.string t, .int .i64 a, .string (specB cls)] W fun e w' => e = .returned (.tuple #[.int .u8 10, .int .i64 (a + 2 : Nat), .int .i64 0]) ∧ Below W.heap.size W w' := by
  have HB := Lib.hid hb0
  have d1 : decide ((t.size : Int) ≤ (a : Int)) = false := by simp; omega
  have d2 : ¬ ((t.size : Int) ≤ (a : Int)) := by omega
  have d3 : (a : Int) < (t.size : Int) := by omega
  have l1 : decide ((t[a].toNat : Int) < 32) = false := by simp; omega
  have l2 : decide ((126 : Int) < (t[a].toNat : Int)) = false := by simp; omega
  have h92 : ((t[a].toNat : Int) != 92) = false := by rw [bne_eq_false_iff_eq]; omega
  have p1 : decide ((t.size : Int) ≤ (a : Int) + 1) = false := by simp; omega
  have p2 : ¬ ((t.size : Int) ≤ (a : Int) + 1) := by omega
  have p3 : (a : Int) + 1 < (t.size : Int) := by omega
  have q0 : ((t[a + 1].toNat : Int) == 110) = true := by rw [beq_iff_eq]; omega
  clear hI hb0
  generalize specB cls = sp at *
  go_enter Tryd.func29, Tryd.ntmps29
  go_wp2_with fail
  refine bodyPost_ret (v := (.tuple #[.int .u8 10, .int .i64 (a + 2 : Nat), .int .i64 0])) (by simp [results, Tryd.results29, go_sem]) rfl ?_
  first | exact ⟨rfl, Below.refl _ _⟩ | exact ⟨rfl, hb1⟩

set_option maxRecDepth 100000 in
set_option maxHeartbeats 4000000 in
theorem rs_r (cls : Bool) {W0 W : World} (hI : Inv W0) (hb0 : Below W0.heap.size W0 W) (t : ByteArray) (a : Nat) (hs : t.size ≤ 1000000000) (h : a < t.size) (hl : 32 ≤ t[a].toNat) (hh : t[a].toNat ≤ 126) (hn : t[a].toNat = 92) (h2 : a + 1 < t.size) (n0 : t[a + 1].toNat ≠ 110) (y : t[a + 1].toNat = 114) :
    Calls Tryd.prog 29 #[.string t, .int .i64 a, .string (specB cls)] W fun e w' => e = .returned (.tuple #[.int .u8 13, .int .i64 (a + 2 : Nat), .int .i64 0]) ∧ Below W.heap.size W w' := by
  have HB := Lib.hid hb0
  have d1 : decide ((t.size : Int) ≤ (a : Int)) = false := by simp; omega
  have d2 : ¬ ((t.size : Int) ≤ (a : Int)) := by omega
  have d3 : (a : Int) < (t.size : Int) := by omega
  have l1 : decide ((t[a].toNat : Int) < 32) = false := by simp; omega
  have l2 : decide ((126 : Int) < (t[a].toNat : Int)) = false := by simp; omega
  have h92 : ((t[a].toNat : Int) != 92) = false := by rw [bne_eq_false_iff_eq]; omega
  have p1 : decide ((t.size : Int) ≤ (a : Int) + 1) = false := by simp; omega
  have p2 : ¬ ((t.size : Int) ≤ (a : Int) + 1) := by omega
  have p3 : (a : Int) + 1 < (t.size : Int) := by omega
  have q0 : ((t[a + 1].toNat : Int) == 110) = false := by rw [beq_eq_false_iff_ne]; omega
  have q1 : ((t[a + 1].toNat : Int) == 114) = true := by rw [beq_iff_eq]; omega
  clear hI hb0
  generalize specB cls = sp at *
  go_enter Tryd.func29, Tryd.ntmps29
  go_wp2_with fail
  refine bodyPost_ret (v := (.tuple #[.int .u8 13, .int .i64 (a + 2 : Nat), .int .i64 0])) (by simp [results, Tryd.results29, go_sem]) rfl ?_
  first | exact ⟨rfl, Below.refl _ _⟩ | exact ⟨rfl, hb1⟩

set_option maxRecDepth 100000 in
set_option maxHeartbeats 4000000 in
theorem rs_t (cls : Bool) {W0 W : World} (hI : Inv W0) (hb0 : Below W0.heap.size W0 W) (t : ByteArray) (a : Nat) (hs : t.size ≤ 1000000000) (h : a < t.size) (hl : 32 ≤ t[a].toNat) (hh : t[a].toNat ≤ 126) (hn : t[a].toNat = 92) (h2 : a + 1 < t.size) (n0 : t[a + 1].toNat ≠ 110) (n1 : t[a + 1].toNat ≠ 114) (y : t[a + 1].toNat = 116) :
    Calls Tryd.prog 29 #[.string t, .int .i64 a, .string (specB cls)] W fun e w' => e = .returned (.tuple #[.int .u8 9, .int .i64 (a + 2 : Nat), .int .i64 0]) ∧ Below W.heap.size W w' := by
  have HB := Lib.hid hb0
  have d1 : decide ((t.size : Int) ≤ (a : Int)) = false := by simp; omega
  have d2 : ¬ ((t.size : Int) ≤ (a : Int)) := by omega
  have d3 : (a : Int) < (t.size : Int) := by omega
  have l1 : decide ((t[a].toNat : Int) < 32) = false := by simp; omega
  have l2 : decide ((126 : Int) < (t[a].toNat : Int)) = false := by simp; omega
  have h92 : ((t[a].toNat : Int) != 92) = false := by rw [bne_eq_false_iff_eq]; omega
  have p1 : decide ((t.size : Int) ≤ (a : Int) + 1) = false := by simp; omega
  have p2 : ¬ ((t.size : Int) ≤ (a : Int) + 1) := by omega
  have p3 : (a : Int) + 1 < (t.size : Int) := by omega
  have q0 : ((t[a + 1].toNat : Int) == 110) = false := by rw [beq_eq_false_iff_ne]; omega
  have q1 : ((t[a + 1].toNat : Int) == 114) = false := by rw [beq_eq_false_iff_ne]; omega
  have q2 : ((t[a + 1].toNat : Int) == 116) = true := by rw [beq_iff_eq]; omega
  clear hI hb0
  generalize specB cls = sp at *
  go_enter Tryd.func29, Tryd.ntmps29
  go_wp2_with fail
  refine bodyPost_ret (v := (.tuple #[.int .u8 9, .int .i64 (a + 2 : Nat), .int .i64 0])) (by simp [results, Tryd.results29, go_sem]) rfl ?_
  first | exact ⟨rfl, Below.refl _ _⟩ | exact ⟨rfl, hb1⟩

set_option maxRecDepth 100000 in
set_option maxHeartbeats 4000000 in
theorem rs_back (cls : Bool) {W0 W : World} (hI : Inv W0) (hb0 : Below W0.heap.size W0 W) (t : ByteArray) (a : Nat) (hs : t.size ≤ 1000000000) (h : a < t.size) (hl : 32 ≤ t[a].toNat) (hh : t[a].toNat ≤ 126) (hn : t[a].toNat = 92) (h2 : a + 1 < t.size) (n0 : t[a + 1].toNat ≠ 110) (n1 : t[a + 1].toNat ≠ 114) (n2 : t[a + 1].toNat ≠ 116) (hw : (specL cls).contains t[a + 1].toNat = true) :
    Calls Tryd.prog 29 #[.string t, .int .i64 a, .string (specB cls)] W fun e w' => e = .returned (.tuple #[.int .u8 t[a + 1].toNat, .int .i64 (a + 2 : Nat), .int .i64 0]) ∧ Below W.heap.size W w' := by
  have HW1 := Lib.hid (show ∀ W : World, Below W0.heap.size W0 W → Calls Tryd.prog 46 #[.int .u8 (t[a + 1]).toNat, .string (specB cls)] W fun e w' => e = .returned (.bool true) ∧ Below W.heap.size W w' from fun W hB => by have := within_any cls hI hB (t[a + 1]); rw [hw] at this; exact this)
  have HB := Lib.hid hb0
  have d1 : decide ((t.size : Int) ≤ (a : Int)) = false := by simp; omega
  have d2 : ¬ ((t.size : Int) ≤ (a : Int)) := by omega
  have d3 : (a : Int) < (t.size : Int) := by omega
  have l1 : decide ((t[a].toNat : Int) < 32) = false := by simp; omega
  have l2 : decide ((126 : Int) < (t[a].toNat : Int)) = false := by simp; omega
  have h92 : ((t[a].toNat : Int) != 92) = false := by rw [bne_eq_false_iff_eq]; omega
  have p1 : decide ((t.size : Int) ≤ (a : Int) + 1) = false := by simp; omega
  have p2 : ¬ ((t.size : Int) ≤ (a : Int) + 1) := by omega
  have p3 : (a : Int) + 1 < (t.size : Int) := by omega
  have q0 : ((t[a + 1].toNat : Int) == 110) = false := by rw [beq_eq_false_iff_ne]; omega
  have q1 : ((t[a + 1].toNat : Int) == 114) = false := by rw [beq_eq_false_iff_ne]; omega
  have q2 : ((t[a + 1].toNat : Int) == 116) = false := by rw [beq_eq_false_iff_ne]; omega
  clear hI hb0
  generalize specB cls = sp at *
  go_enter Tryd.func29, Tryd.ntmps29
  go_wp2_with (go_at_call 46; refine (HW1.out _ HB.out).mono ?_; rintro e w1 ⟨rfl, hb1⟩)
  refine bodyPost_ret (v := (.tuple #[.int .u8 t[a + 1].toNat, .int .i64 (a + 2 : Nat), .int .i64 0])) (by simp [results, Tryd.results29, go_sem]) rfl ?_
  first | exact ⟨rfl, Below.refl _ _⟩ | exact ⟨rfl, hb1⟩

set_option maxRecDepth 100000 in
set_option maxHeartbeats 4000000 in
theorem rs_form (cls : Bool) {W0 W : World} (hI : Inv W0) (hb0 : Below W0.heap.size W0 W) (t : ByteArray) (a : Nat) (hs : t.size ≤ 1000000000) (h : a < t.size) (hl : 32 ≤ t[a].toNat) (hh : t[a].toNat ≤ 126) (hn : t[a].toNat = 92) (h2 : a + 1 < t.size) (n0 : t[a + 1].toNat ≠ 110) (n1 : t[a + 1].toNat ≠ 114) (n2 : t[a + 1].toNat ≠ 116) (hw : (specL cls).contains t[a + 1].toNat = false) (y : t[a + 1].toNat ≠ 120) :
    Calls Tryd.prog 29 #[.string t, .int .i64 a, .string (specB cls)] W fun e w' => e = .returned (.tuple #[.int .u8 0, .int .i64 (a + 1 : Nat), .int .i64 4]) ∧ Below W.heap.size W w' := by
  have HW1 := Lib.hid (show ∀ W : World, Below W0.heap.size W0 W → Calls Tryd.prog 46 #[.int .u8 (t[a + 1]).toNat, .string (specB cls)] W fun e w' => e = .returned (.bool false) ∧ Below W.heap.size W w' from fun W hB => by have := within_any cls hI hB (t[a + 1]); rw [hw] at this; exact this)
  have HB := Lib.hid hb0
  have d1 : decide ((t.size : Int) ≤ (a : Int)) = false := by simp; omega
  have d2 : ¬ ((t.size : Int) ≤ (a : Int)) := by omega
  have d3 : (a : Int) < (t.size : Int) := by omega
  have l1 : decide ((t[a].toNat : Int) < 32) = false := by simp; omega
  have l2 : decide ((126 : Int) < (t[a].toNat : Int)) = false := by simp; omega
  have h92 : ((t[a].toNat : Int) != 92) = false := by rw [bne_eq_false_iff_eq]; omega
  have p1 : decide ((t.size : Int) ≤ (a : Int) + 1) = false := by simp; omega
  have p2 : ¬ ((t.size : Int) ≤ (a : Int) + 1) := by omega
  have p3 : (a : Int) + 1 < (t.size : Int) := by omega
  have q0 : ((t[a + 1].toNat : Int) == 110) = false := by rw [beq_eq_false_iff_ne]; omega
  have q1 : ((t[a + 1].toNat : Int) == 114) = false := by rw [beq_eq_false_iff_ne]; omega
  have q2 : ((t[a + 1].toNat : Int) == 116) = false := by rw [beq_eq_false_iff_ne]; omega
  have q4 : ((t[a + 1].toNat : Int) != 120) = true := by rw [bne_iff_ne]; omega
  clear hI hb0
  generalize specB cls = sp at *
  go_enter Tryd.func29, Tryd.ntmps29
  go_wp2_with (go_at_call 46; refine (HW1.out _ HB.out).mono ?_; rintro e w1 ⟨rfl, hb1⟩)
  refine bodyPost_ret (v := (.tuple #[.int .u8 0, .int .i64 (a + 1 : Nat), .int .i64 4])) (by simp [results, Tryd.results29, go_sem]) rfl ?_
  first | exact ⟨rfl, Below.refl _ _⟩ | exact ⟨rfl, hb1⟩

end Go.Proofs.YtjaklcmadkpmdaaDoor
end
section
namespace Go.Proofs.YtjaklcmadkpmdaaDoor
open Go Go.RowKit Go.Shelf
set_option linter.unusedSimpArgs false
set_option linter.unusedVariables false

theorem spec_x (cls : Bool) {c : UInt8} (h : c.toNat = 120) : (specL cls).contains c.toNat = false := by rw [h]; cases cls <;> rfl

set_option maxRecDepth 100000 in
set_option maxHeartbeats 4000000 in
theorem rs_x0 (cls : Bool) {W0 W : World} (hI : Inv W0) (hb0 : Below W0.heap.size W0 W) (t : ByteArray) (a : Nat) (hs : t.size ≤ 1000000000) (h : a < t.size) (hl : 32 ≤ t[a].toNat) (hh : t[a].toNat ≤ 126) (hn : t[a].toNat = 92) (h2 : a + 1 < t.size) (y : t[a + 1].toNat = 120) (h3 : t.size ≤ a + 2) :
    Calls Tryd.prog 29 #[.string t, .int .i64 a, .string (specB cls)] W fun e w' => e = .returned (.tuple #[.int .u8 0, .int .i64 t.size, .int .i64 8]) ∧ Below W.heap.size W w' := by
  have hw := spec_x cls y
  have HW1 := Lib.hid (show ∀ W : World, Below W0.heap.size W0 W → Calls Tryd.prog 46 #[.int .u8 (t[a + 1]).toNat, .string (specB cls)] W fun e w' => e = .returned (.bool false) ∧ Below W.heap.size W w' from fun W hB => by have := within_any cls hI hB (t[a + 1]); rw [hw] at this; exact this)
  have HB := Lib.hid hb0
  have d1 : decide ((t.size : Int) ≤ (a : Int)) = false := by simp; omega
  have d2 : ¬ ((t.size : Int) ≤ (a : Int)) := by omega
  have d3 : (a : Int) < (t.size : Int) := by omega
  have l1 : decide ((t[a].toNat : Int) < 32) = false := by simp; omega
  have l2 : decide ((126 : Int) < (t[a].toNat : Int)) = false := by simp; omega
  have h92 : ((t[a].toNat : Int) != 92) = false := by rw [bne_eq_false_iff_eq]; omega
  have p1 : decide ((t.size : Int) ≤ (a : Int) + 1) = false := by simp; omega
  have p2 : ¬ ((t.size : Int) ≤ (a : Int) + 1) := by omega
  have p3 : (a : Int) + 1 < (t.size : Int) := by omega
  have q0 : ((t[a + 1].toNat : Int) == 110) = false := by rw [beq_eq_false_iff_ne]; omega
  have q1 : ((t[a + 1].toNat : Int) == 114) = false := by rw [beq_eq_false_iff_ne]; omega
  have q2 : ((t[a + 1].toNat : Int) == 116) = false := by rw [beq_eq_false_iff_ne]; omega
  have q4 : ((t[a + 1].toNat : Int) != 120) = false := by rw [bne_eq_false_iff_eq]; omega
  have r2 : decide ((t.size : Int) ≤ (a : Int) + 2) = true := by simp; omega
  have s2 : ((t.size : Int) ≤ (a : Int) + 2) := by omega
  clear hI hb0 hw y hn hl hh
  generalize specB cls = sp at *
  go_enter Tryd.func29, Tryd.ntmps29
  go_wp2_with (go_at_call 46; refine (HW1.out _ HB.out).mono ?_; rintro e w1 ⟨rfl, hb1⟩)
  clear HW1 q0 q1 q2 q4 h92 l1 l2 d1 d2 p1 p2
  go_loopw [10, 11] (fun n i wr => (i = .int .i64 ((a : Int) + 2) ∧ n = .int .i64 0) ∧ Below W.heap.size W wr) (fun n i _ => a + 4 - (intOf i).toNat)
  case atStart => exact ⟨⟨by go_num, rfl⟩, hb1⟩
  case round =>
    clear hb1
    obtain ⟨hr, hb⟩ := hrel
    obtain ⟨rfl, rfl⟩ := hr
    · go_wp2_with fail
      refine bodyPost_ret (v := (.tuple #[.int .u8 0, .int .i64 t.size, .int .i64 8])) (by simp [results, Tryd.results29, go_sem]) rfl ?_
      first | exact ⟨rfl, hb⟩ | exact ⟨rfl, hb2'⟩

set_option maxRecDepth 100000 in
set_option maxHeartbeats 4000000 in
theorem rs_x1 (cls : Bool) {W0 W : World} (hI : Inv W0) (hb0 : Below W0.heap.size W0 W) (t : ByteArray) (a : Nat) (hs : t.size ≤ 1000000000) (h : a < t.size) (hl : 32 ≤ t[a].toNat) (hh : t[a].toNat ≤ 126) (hn : t[a].toNat = 92) (h2 : a + 1 < t.size) (y : t[a + 1].toNat = 120) (h3 : a + 2 < t.size) (k1 : hexZ t[a + 2] < 0) :
    Calls Tryd.prog 29 #[.string t, .int .i64 a, .string (specB cls)] W fun e w' => e = .returned (.tuple #[.int .u8 0, .int .i64 (a + 2 : Nat), .int .i64 4]) ∧ Below W.heap.size W w' := by
  have hw := spec_x cls y
  have HW1 := Lib.hid (show ∀ W : World, Below W0.heap.size W0 W → Calls Tryd.prog 46 #[.int .u8 (t[a + 1]).toNat, .string (specB cls)] W fun e w' => e = .returned (.bool false) ∧ Below W.heap.size W w' from fun W hB => by have := within_any cls hI hB (t[a + 1]); rw [hw] at this; exact this)
  obtain ⟨z1, ez1⟩ : ∃ z, hexZ t[a + 2] = z := ⟨_, rfl⟩
  have HX1 := Lib.hid (show ∀ W : World, Below W0.heap.size W0 W → Calls Tryd.prog 47 #[.int .u8 (t[a + 2]).toNat] W fun e w' => e = .returned (.int .i64 z1) ∧ Below W.heap.size W w' from fun W hB => by have := hex_any hI hB (t[a + 2]); rw [ez1] at this; exact this)
  rw [ez1] at k1
  have hz1 := hexZ_lt t[a + 2]
  rw [ez1] at hz1
  (try rw [ez1])
  clear ez1
  have g1 : decide (z1 < 0) = true := by simp; omega
  have g1' : (z1 < 0) := by omega
  have HB := Lib.hid hb0
  have d1 : decide ((t.size : Int) ≤ (a : Int)) = false := by simp; omega
  have d2 : ¬ ((t.size : Int) ≤ (a : Int)) := by omega
  have d3 : (a : Int) < (t.size : Int) := by omega
  have l1 : decide ((t[a].toNat : Int) < 32) = false := by simp; omega
  have l2 : decide ((126 : Int) < (t[a].toNat : Int)) = false := by simp; omega
  have h92 : ((t[a].toNat : Int) != 92) = false := by rw [bne_eq_false_iff_eq]; omega
  have p1 : decide ((t.size : Int) ≤ (a : Int) + 1) = false := by simp; omega
  have p2 : ¬ ((t.size : Int) ≤ (a : Int) + 1) := by omega
  have p3 : (a : Int) + 1 < (t.size : Int) := by omega
  have q0 : ((t[a + 1].toNat : Int) == 110) = false := by rw [beq_eq_false_iff_ne]; omega
  have q1 : ((t[a + 1].toNat : Int) == 114) = false := by rw [beq_eq_false_iff_ne]; omega
  have q2 : ((t[a + 1].toNat : Int) == 116) = false := by rw [beq_eq_false_iff_ne]; omega
  have q4 : ((t[a + 1].toNat : Int) != 120) = false := by rw [bne_eq_false_iff_eq]; omega
  have r2 : decide ((t.size : Int) ≤ (a : Int) + 2) = false := by simp; omega
  have s2 : ¬ ((t.size : Int) ≤ (a : Int) + 2) := by omega
  have u2 : (a : Int) + 2 < (t.size : Int) := by omega
  clear hI hb0 hw y hn hl hh
  generalize specB cls = sp at *
  go_enter Tryd.func29, Tryd.ntmps29
  go_wp2_with (go_at_call 46; refine (HW1.out _ HB.out).mono ?_; rintro e w1 ⟨rfl, hb1⟩)
  clear HW1 q0 q1 q2 q4 h92 l1 l2 d1 d2 p1 p2
  go_loopw [10, 11] (fun n i wr => (i = .int .i64 ((a : Int) + 2) ∧ n = .int .i64 0) ∧ Below W.heap.size W wr) (fun n i _ => a + 4 - (intOf i).toNat)
  case atStart => exact ⟨⟨by go_num, rfl⟩, hb1⟩
  case round =>
    clear hb1
    obtain ⟨hr, hb⟩ := hrel
    obtain ⟨rfl, rfl⟩ := hr
    · go_wp2_with (go_at_call 47; refine (HX1.out _ (HB.out.trans (hb.mono HB.out.size))).mono ?_; rintro e w2 ⟨rfl, hb2⟩; have hb2' := hb.trans (hb2.mono hb.size))
      refine bodyPost_ret (v := (.tuple #[.int .u8 0, .int .i64 (a + 2 : Nat), .int .i64 4])) (by simp [results, Tryd.results29, go_sem]) rfl ?_
      first | exact ⟨rfl, hb⟩ | exact ⟨rfl, hb2'⟩

set_option maxRecDepth 100000 in
set_option maxHeartbeats 4000000 in
theorem rs_x2 (cls : Bool) {W0 W : World} (hI : Inv W0) (hb0 : Below W0.heap.size W0 W) (t : ByteArray) (a : Nat) (hs : t.size ≤ 1000000000) (h : a < t.size) (hl : 32 ≤ t[a].toNat) (hh : t[a].toNat ≤ 126) (hn : t[a].toNat = 92) (h2 : a + 1 < t.size) (y : t[a + 1].toNat = 120) (h3 : a + 2 < t.size) (k1 : 0 ≤ hexZ t[a + 2]) (h4 : t.size ≤ a + 3) :
    Calls Tryd.prog 29 #[.string t, .int .i64 a, .string (specB cls)] W fun e w' => e = .returned (.tuple #[.int .u8 0, .int .i64 t.size, .int .i64 8]) ∧ Below W.heap.size W w' := by
  have hw := spec_x cls y
  have HW1 := Lib.hid (show ∀ W : World, Below W0.heap.size W0 W → Calls Tryd.prog 46 #[.int .u8 (t[a + 1]).toNat, .string (specB cls)] W fun e w' => e = .returned (.bool false) ∧ Below W.heap.size W w' from fun W hB => by have := within_any cls hI hB (t[a + 1]); rw [hw] at this; exact this)
  obtain ⟨z1, ez1⟩ : ∃ z, hexZ t[a + 2] = z := ⟨_, rfl⟩
  have HX1 := Lib.hid (show ∀ W : World, Below W0.heap.size W0 W → Calls Tryd.prog 47 #[.int .u8 (t[a + 2]).toNat] W fun e w' => e = .returned (.int .i64 z1) ∧ Below W.heap.size W w' from fun W hB => by have := hex_any hI hB (t[a + 2]); rw [ez1] at this; exact this)
  rw [ez1] at k1
  have hz1 := hexZ_lt t[a + 2]
  rw [ez1] at hz1
  (try rw [ez1])
  clear ez1
  have g1 : decide (z1 < 0) = false := by simp; omega
  have g1' : ¬ (z1 < 0) := by omega
  have HB := Lib.hid hb0
  have d1 : decide ((t.size : Int) ≤ (a : Int)) = false := by simp; omega
  have d2 : ¬ ((t.size : Int) ≤ (a : Int)) := by omega
  have d3 : (a : Int) < (t.size : Int) := by omega
  have l1 : decide ((t[a].toNat : Int) < 32) = false := by simp; omega
  have l2 : decide ((126 : Int) < (t[a].toNat : Int)) = false := by simp; omega
  have h92 : ((t[a].toNat : Int) != 92) = false := by rw [bne_eq_false_iff_eq]; omega
  have p1 : decide ((t.size : Int) ≤ (a : Int) + 1) = false := by simp; omega
  have p2 : ¬ ((t.size : Int) ≤ (a : Int) + 1) := by omega
  have p3 : (a : Int) + 1 < (t.size : Int) := by omega
  have q0 : ((t[a + 1].toNat : Int) == 110) = false := by rw [beq_eq_false_iff_ne]; omega
  have q1 : ((t[a + 1].toNat : Int) == 114) = false := by rw [beq_eq_false_iff_ne]; omega
  have q2 : ((t[a + 1].toNat : Int) == 116) = false := by rw [beq_eq_false_iff_ne]; omega
  have q4 : ((t[a + 1].toNat : Int) != 120) = false := by rw [bne_eq_false_iff_eq]; omega
  have r2 : decide ((t.size : Int) ≤ (a : Int) + 2) = false := by simp; omega
  have s2 : ¬ ((t.size : Int) ≤ (a : Int) + 2) := by omega
  have u2 : (a : Int) + 2 < (t.size : Int) := by omega
  have r3 : decide ((t.size : Int) ≤ (a : Int) + 3) = true := by simp; omega
  have s3 : ((t.size : Int) ≤ (a : Int) + 3) := by omega
  clear hI hb0 hw y hn hl hh
  generalize specB cls = sp at *
  go_enter Tryd.func29, Tryd.ntmps29
  go_wp2_with (go_at_call 46; refine (HW1.out _ HB.out).mono ?_; rintro e w1 ⟨rfl, hb1⟩)
  clear HW1 q0 q1 q2 q4 h92 l1 l2 d1 d2 p1 p2
  go_loopw [10, 11] (fun n i wr => (i = .int .i64 ((a : Int) + 2) ∧ n = .int .i64 0 ∨ i = .int .i64 ((a : Int) + 3) ∧ n = .int .i64 z1) ∧ Below W.heap.size W wr) (fun n i _ => a + 4 - (intOf i).toNat)
  case atStart => exact ⟨.inl ⟨by go_num, rfl⟩, hb1⟩
  case round =>
    clear hb1
    obtain ⟨hr, hb⟩ := hrel
    rcases hr with ⟨rfl, rfl⟩ | ⟨rfl, rfl⟩
    · go_wp2_with (first | (go_at_call 47; refine (HX1.out _ (HB.out.trans (hb.mono HB.out.size))).mono ?_; rintro e w2 ⟨rfl, hb2⟩; have hb2' := hb.trans (hb2.mono hb.size)) | (go_at_call 47; refine (HX1.out _ (HB.out.trans (hb2'.mono HB.out.size))).mono ?_; rintro e w3 ⟨rfl, hb3⟩; have hb3' := hb2'.trans (hb3.mono hb2'.size)))
      go_roundw
      case rel => exact ⟨.inr ⟨by go_num, by go_num⟩, by first | exact hb3' | exact hb2'⟩
      case measure => simp [intOf]; omega
    · go_wp2_with fail
      refine bodyPost_ret (v := (.tuple #[.int .u8 0, .int .i64 t.size, .int .i64 8])) (by simp [results, Tryd.results29, go_sem]) rfl ?_
      first | exact ⟨rfl, hb⟩ | exact ⟨rfl, hb2'⟩

set_option maxRecDepth 100000 in
set_option maxHeartbeats 4000000 in
theorem rs_x3 (cls : Bool) {W0 W : World} (hI : Inv W0) (hb0 : Below W0.heap.size W0 W) (t : ByteArray) (a : Nat) (hs : t.size ≤ 1000000000) (h : a < t.size) (hl : 32 ≤ t[a].toNat) (hh : t[a].toNat ≤ 126) (hn : t[a].toNat = 92) (h2 : a + 1 < t.size) (y : t[a + 1].toNat = 120) (h3 : a + 2 < t.size) (k1 : 0 ≤ hexZ t[a + 2]) (h4 : a + 3 < t.size) (k3 : hexZ t[a + 3] < 0) :
    Calls Tryd.prog 29 #[.string t, .int .i64 a, .string (specB cls)] W fun e w' => e = .returned (.tuple #[.int .u8 0, .int .i64 (a + 3 : Nat), .int .i64 4]) ∧ Below W.heap.size W w' := by
  have hw := spec_x cls y
  have HW1 := Lib.hid (show ∀ W : World, Below W0.heap.size W0 W → Calls Tryd.prog 46 #[.int .u8 (t[a + 1]).toNat, .string (specB cls)] W fun e w' => e = .returned (.bool false) ∧ Below W.heap.size W w' from fun W hB => by have := within_any cls hI hB (t[a + 1]); rw [hw] at this; exact this)
  obtain ⟨z1, ez1⟩ : ∃ z, hexZ t[a + 2] = z := ⟨_, rfl⟩
  have HX1 := Lib.hid (show ∀ W : World, Below W0.heap.size W0 W → Calls Tryd.prog 47 #[.int .u8 (t[a + 2]).toNat] W fun e w' => e = .returned (.int .i64 z1) ∧ Below W.heap.size W w' from fun W hB => by have := hex_any hI hB (t[a + 2]); rw [ez1] at this; exact this)
  rw [ez1] at k1
  have hz1 := hexZ_lt t[a + 2]
  rw [ez1] at hz1
  (try rw [ez1])
  clear ez1
  have g1 : decide (z1 < 0) = false := by simp; omega
  have g1' : ¬ (z1 < 0) := by omega
  obtain ⟨z3, ez3⟩ : ∃ z, hexZ t[a + 3] = z := ⟨_, rfl⟩
  have HX3 := Lib.hid (show ∀ W : World, Below W0.heap.size W0 W → Calls Tryd.prog 47 #[.int .u8 (t[a + 3]).toNat] W fun e w' => e = .returned (.int .i64 z3) ∧ Below W.heap.size W w' from fun W hB => by have := hex_any hI hB (t[a + 3]); rw [ez3] at this; exact this)
  rw [ez3] at k3
  have hz3 := hexZ_lt t[a + 3]
  rw [ez3] at hz3
  (try rw [ez3])
  clear ez3
  have g3 : decide (z3 < 0) = true := by simp; omega
  have g3' : (z3 < 0) := by omega
  have HB := Lib.hid hb0
  have d1 : decide ((t.size : Int) ≤ (a : Int)) = false := by simp; omega
  have d2 : ¬ ((t.size : Int) ≤ (a : Int)) := by omega
  have d3 : (a : Int) < (t.size : Int) := by omega
  have l1 : decide ((t[a].toNat : Int) < 32) = false := by simp; omega
  have l2 : decide ((126 : Int) < (t[a].toNat : Int)) = false := by simp; omega
  have h92 : ((t[a].toNat : Int) != 92) = false := by rw [bne_eq_false_iff_eq]; omega
  have p1 : decide ((t.size : Int) ≤ (a : Int) + 1) = false := by simp; omega
  have p2 : ¬ ((t.size : Int) ≤ (a : Int) + 1) := by omega
  have p3 : (a : Int) + 1 < (t.size : Int) := by omega
  have q0 : ((t[a + 1].toNat : Int) == 110) = false := by rw [beq_eq_false_iff_ne]; omega
  have q1 : ((t[a + 1].toNat : Int) == 114) = false := by rw [beq_eq_false_iff_ne]; omega
  have q2 : ((t[a + 1].toNat : Int) == 116) = false := by rw [beq_eq_false_iff_ne]; omega
  have q4 : ((t[a + 1].toNat : Int) != 120) = false := by rw [bne_eq_false_iff_eq]; omega
  have r2 : decide ((t.size : Int) ≤ (a : Int) + 2) = false := by simp; omega
  have s2 : ¬ ((t.size : Int) ≤ (a : Int) + 2) := by omega
  have u2 : (a : Int) + 2 < (t.size : Int) := by omega
  have r3 : decide ((t.size : Int) ≤ (a : Int) + 3) = false := by simp; omega
  have s3 : ¬ ((t.size : Int) ≤ (a : Int) + 3) := by omega
  have u3 : (a : Int) + 3 < (t.size : Int) := by omega
  clear hI hb0 hw y hn hl hh
  generalize specB cls = sp at *
  go_enter Tryd.func29, Tryd.ntmps29
  go_wp2_with (go_at_call 46; refine (HW1.out _ HB.out).mono ?_; rintro e w1 ⟨rfl, hb1⟩)
  clear HW1 q0 q1 q2 q4 h92 l1 l2 d1 d2 p1 p2
  go_loopw [10, 11] (fun n i wr => (i = .int .i64 ((a : Int) + 2) ∧ n = .int .i64 0 ∨ i = .int .i64 ((a : Int) + 3) ∧ n = .int .i64 z1) ∧ Below W.heap.size W wr) (fun n i _ => a + 4 - (intOf i).toNat)
  case atStart => exact ⟨.inl ⟨by go_num, rfl⟩, hb1⟩
  case round =>
    clear hb1
    obtain ⟨hr, hb⟩ := hrel
    rcases hr with ⟨rfl, rfl⟩ | ⟨rfl, rfl⟩
    · go_wp2_with (first | (go_at_call 47; refine (HX1.out _ (HB.out.trans (hb.mono HB.out.size))).mono ?_; rintro e w2 ⟨rfl, hb2⟩; have hb2' := hb.trans (hb2.mono hb.size)) | (go_at_call 47; refine (HX1.out _ (HB.out.trans (hb2'.mono HB.out.size))).mono ?_; rintro e w3 ⟨rfl, hb3⟩; have hb3' := hb2'.trans (hb3.mono hb2'.size)))
      go_roundw
      case rel => exact ⟨.inr ⟨by go_num, by go_num⟩, by first | exact hb3' | exact hb2'⟩
      case measure => simp [intOf]; omega
    · go_wp2_with (go_at_call 47; refine (HX3.out _ (HB.out.trans (hb.mono HB.out.size))).mono ?_; rintro e w2 ⟨rfl, hb2⟩; have hb2' := hb.trans (hb2.mono hb.size))
      refine bodyPost_ret (v := (.tuple #[.int .u8 0, .int .i64 (a + 3 : Nat), .int .i64 4])) (by simp [results, Tryd.results29, go_sem]) rfl ?_
      first | exact ⟨rfl, hb⟩ | exact ⟨rfl, hb2'⟩

set_option maxRecDepth 100000 in
set_option maxHeartbeats 4000000 in
theorem rs_x4 (cls : Bool) {W0 W : World} (hI : Inv W0) (hb0 : Below W0.heap.size W0 W) (t : ByteArray) (a : Nat) (hs : t.size ≤ 1000000000) (h : a < t.size) (hl : 32 ≤ t[a].toNat) (hh : t[a].toNat ≤ 126) (hn : t[a].toNat = 92) (h2 : a + 1 < t.size) (y : t[a + 1].toNat = 120) (h3 : a + 2 < t.size) (k1 : 0 ≤ hexZ t[a + 2]) (h4 : a + 3 < t.size) (k3 : 0 ≤ hexZ t[a + 3]) :
    Calls Tryd.prog 29 #[.string t, .int .i64 a, .string (specB cls)] W fun e w' => e = .returned (.tuple #[.int .u8 (hexZ t[a + 2] * 16 + hexZ t[a + 3]), .int .i64 (a + 4 : Nat), .int .i64 0]) ∧ Below W.heap.size W w' := by
  have hw := spec_x cls y
  have HW1 := Lib.hid (show ∀ W : World, Below W0.heap.size W0 W → Calls Tryd.prog 46 #[.int .u8 (t[a + 1]).toNat, .string (specB cls)] W fun e w' => e = .returned (.bool false) ∧ Below W.heap.size W w' from fun W hB => by have := within_any cls hI hB (t[a + 1]); rw [hw] at this; exact this)
  obtain ⟨z1, ez1⟩ : ∃ z, hexZ t[a + 2] = z := ⟨_, rfl⟩
  have HX1 := Lib.hid (show ∀ W : World, Below W0.heap.size W0 W → Calls Tryd.prog 47 #[.int .u8 (t[a + 2]).toNat] W fun e w' => e = .returned (.int .i64 z1) ∧ Below W.heap.size W w' from fun W hB => by have := hex_any hI hB (t[a + 2]); rw [ez1] at this; exact this)
  rw [ez1] at k1
  have hz1 := hexZ_lt t[a + 2]
  rw [ez1] at hz1
  (try rw [ez1])
  clear ez1
  have g1 : decide (z1 < 0) = false := by simp; omega
  have g1' : ¬ (z1 < 0) := by omega
  obtain ⟨z3, ez3⟩ : ∃ z, hexZ t[a + 3] = z := ⟨_, rfl⟩
  have HX3 := Lib.hid (show ∀ W : World, Below W0.heap.size W0 W → Calls Tryd.prog 47 #[.int .u8 (t[a + 3]).toNat] W fun e w' => e = .returned (.int .i64 z3) ∧ Below W.heap.size W w' from fun W hB => by have := hex_any hI hB (t[a + 3]); rw [ez3] at this; exact this)
  rw [ez3] at k3
  have hz3 := hexZ_lt t[a + 3]
  rw [ez3] at hz3
  (try rw [ez3])
  clear ez3
  have g3 : decide (z3 < 0) = false := by simp; omega
  have g3' : ¬ (z3 < 0) := by omega
  have HB := Lib.hid hb0
  have d1 : decide ((t.size : Int) ≤ (a : Int)) = false := by simp; omega
  have d2 : ¬ ((t.size : Int) ≤ (a : Int)) := by omega
  have d3 : (a : Int) < (t.size : Int) := by omega
  have l1 : decide ((t[a].toNat : Int) < 32) = false := by simp; omega
  have l2 : decide ((126 : Int) < (t[a].toNat : Int)) = false := by simp; omega
  have h92 : ((t[a].toNat : Int) != 92) = false := by rw [bne_eq_false_iff_eq]; omega
  have p1 : decide ((t.size : Int) ≤ (a : Int) + 1) = false := by simp; omega
  have p2 : ¬ ((t.size : Int) ≤ (a : Int) + 1) := by omega
  have p3 : (a : Int) + 1 < (t.size : Int) := by omega
  have q0 : ((t[a + 1].toNat : Int) == 110) = false := by rw [beq_eq_false_iff_ne]; omega
  have q1 : ((t[a + 1].toNat : Int) == 114) = false := by rw [beq_eq_false_iff_ne]; omega
  have q2 : ((t[a + 1].toNat : Int) == 116) = false := by rw [beq_eq_false_iff_ne]; omega
  have q4 : ((t[a + 1].toNat : Int) != 120) = false := by rw [bne_eq_false_iff_eq]; omega
  have r2 : decide ((t.size : Int) ≤ (a : Int) + 2) = false := by simp; omega
  have s2 : ¬ ((t.size : Int) ≤ (a : Int) + 2) := by omega
  have u2 : (a : Int) + 2 < (t.size : Int) := by omega
  have r3 : decide ((t.size : Int) ≤ (a : Int) + 3) = false := by simp; omega
  have s3 : ¬ ((t.size : Int) ≤ (a : Int) + 3) := by omega
  have u3 : (a : Int) + 3 < (t.size : Int) := by omega
  have hwu : IntKind.u8.wrap (z1 * 16 + z3) = z1 * 16 + z3 := by rw [IntKind.wrap_u8, Int.emod_eq_of_lt (by omega) (by omega)]
  have hwv : (z1 * 16 + z3) % 256 = z1 * 16 + z3 := Int.emod_eq_of_lt (by omega) (by omega)
  clear hI hb0 hw y hn hl hh
  generalize specB cls = sp at *
  go_enter Tryd.func29, Tryd.ntmps29
  go_wp2_with (go_at_call 46; refine (HW1.out _ HB.out).mono ?_; rintro e w1 ⟨rfl, hb1⟩)
  clear HW1 q0 q1 q2 q4 h92 l1 l2 d1 d2 p1 p2
  go_loopw [10, 11] (fun n i wr => (i = .int .i64 ((a : Int) + 2) ∧ n = .int .i64 0 ∨ i = .int .i64 ((a : Int) + 3) ∧ n = .int .i64 z1 ∨ i = .int .i64 ((a : Int) + 4) ∧ n = .int .i64 (z1 * 16 + z3)) ∧ Below W.heap.size W wr) (fun n i _ => a + 4 - (intOf i).toNat)
  case atStart => exact ⟨.inl ⟨by go_num, rfl⟩, hb1⟩
  case round =>
    clear hb1
    obtain ⟨hr, hb⟩ := hrel
    rcases hr with ⟨rfl, rfl⟩ | ⟨rfl, rfl⟩ | ⟨rfl, rfl⟩
    · go_wp2_with (first | (go_at_call 47; refine (HX1.out _ (HB.out.trans (hb.mono HB.out.size))).mono ?_; rintro e w2 ⟨rfl, hb2⟩; have hb2' := hb.trans (hb2.mono hb.size)) | (go_at_call 47; refine (HX1.out _ (HB.out.trans (hb2'.mono HB.out.size))).mono ?_; rintro e w3 ⟨rfl, hb3⟩; have hb3' := hb2'.trans (hb3.mono hb2'.size)))
      go_roundw
      case rel => exact ⟨.inr (.inl ⟨by go_num, by go_num⟩), by first | exact hb3' | exact hb2'⟩
      case measure => simp [intOf]; omega
    · go_wp2_with (first | (go_at_call 47; refine (HX3.out _ (HB.out.trans (hb.mono HB.out.size))).mono ?_; rintro e w2 ⟨rfl, hb2⟩; have hb2' := hb.trans (hb2.mono hb.size)) | (go_at_call 47; refine (HX3.out _ (HB.out.trans (hb2'.mono HB.out.size))).mono ?_; rintro e w3 ⟨rfl, hb3⟩; have hb3' := hb2'.trans (hb3.mono hb2'.size)))
      go_roundw
      case rel => exact ⟨.inr (.inr ⟨by go_num, by go_num⟩), by first | exact hb3' | exact hb2'⟩
      case measure => simp [intOf]; omega
    · go_wp2_with fail
      refine bodyPost_ret (v := (.tuple #[.int .u8 (z1 * 16 + z3), .int .i64 (a + 4 : Nat), .int .i64 0])) (by simp [results, Tryd.results29, go_sem]) rfl ?_
      first | exact ⟨rfl, hb⟩ | exact ⟨rfl, hb2'⟩

end Go.Proofs.YtjaklcmadkpmdaaDoor
end
