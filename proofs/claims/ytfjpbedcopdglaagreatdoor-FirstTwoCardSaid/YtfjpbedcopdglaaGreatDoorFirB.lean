/- Seq, Choice, Within of firsts: as mathematics. -/
import Derived.Test.YtfjpbedcopdglaaGreatDoorFirX
import Derived.Test.YtfjpbedcopdglaaGreatDoorFirY
namespace Go.Proofs.YtfjpbedcopdglaaGreatDoor
open Go.RowKit

theorem S4.eqf {s t : S4} (h0 : s.a = t.a) (h1 : s.b = t.b) (h2 : s.c = t.c) (h3 : s.d = t.d) : s = t := by
  cases s; cases t; simp_all
theorem or_as (s t u : S4) : (s.or t).or u = s.or (t.or u) := S4.eqf (Nat.or_assoc ..) (Nat.or_assoc ..) (Nat.or_assoc ..) (Nat.or_assoc ..)
theorem or_co (s t : S4) : s.or t = t.or s := S4.eqf (Nat.or_comm ..) (Nat.or_comm ..) (Nat.or_comm ..) (Nat.or_comm ..)
theorem or_nil (s : S4) : s.or S4.nil = s := S4.eqf (Nat.or_zero _) (Nat.or_zero _) (Nat.or_zero _) (Nat.or_zero _)
theorem nil_or (s : S4) : S4.nil.or s = s := S4.eqf (Nat.zero_or _) (Nat.zero_or _) (Nat.zero_or _) (Nat.zero_or _)

/-- A set within a set, word by word. -/
def sub (s t : S4) : Bool := same4 (s.and t) s
theorem sub_iff {s t : S4} : sub s t = true ↔ s.a &&& t.a = s.a ∧ s.b &&& t.b = s.b ∧ s.c &&& t.c = s.c ∧ s.d &&& t.d = s.d := by
  unfold sub
  rw [same4_iff]
  constructor
  · intro h
    exact ⟨congrArg S4.a h, congrArg S4.b h, congrArg S4.c h, congrArg S4.d h⟩
  · rintro ⟨a, b, c, d⟩
    exact S4.eqf a b c d
theorem nand {x y : Nat} : x &&& y = x ↔ ∀ i, x.testBit i = true → y.testBit i = true := by
  constructor
  · intro h i hi
    have := congrArg (·.testBit i) h
    simp only [Nat.testBit_and, hi, Bool.true_and] at this
    exact this
  · intro h
    apply Nat.eq_of_testBit_eq
    intro i
    rw [Nat.testBit_and]
    cases hx : x.testBit i
    · rfl
    · rw [h i hx]; rfl
theorem nand_refl (x : Nat) : x &&& x = x := Nat.and_self x
theorem nand_trans {x y z : Nat} (h : x &&& y = x) (h' : y &&& z = y) : x &&& z = x := nand.2 fun i hi => nand.1 h' i (nand.1 h i hi)
theorem nand_anti {x y : Nat} (h : x &&& y = x) (h' : y &&& x = y) : x = y := by rw [← h, Nat.and_comm, h']
theorem nand_or (x y : Nat) : x &&& (x ||| y) = x := nand.2 fun i hi => by rw [Nat.testBit_or, hi]; rfl
theorem nand_mono {x y : Nat} (z : Nat) (h : x &&& y = x) : (x ||| z) &&& (y ||| z) = x ||| z := nand.2 fun i hi => by
  rw [Nat.testBit_or] at hi ⊢
  cases hx : x.testBit i
  · rw [hx, Bool.false_or] at hi; rw [hi, Bool.or_true]
  · rw [nand.1 h i hx]; rfl
theorem sub_refl (s : S4) : sub s s = true := sub_iff.2 ⟨nand_refl _, nand_refl _, nand_refl _, nand_refl _⟩
theorem sub_trans {s t u : S4} (h : sub s t = true) (h' : sub t u = true) : sub s u = true := by
  obtain ⟨a, b, c, d⟩ := sub_iff.1 h
  obtain ⟨a', b', c', d'⟩ := sub_iff.1 h'
  exact sub_iff.2 ⟨nand_trans a a', nand_trans b b', nand_trans c c', nand_trans d d'⟩
theorem sub_anti {s t : S4} (h : sub s t = true) (h' : sub t s = true) : s = t := by
  obtain ⟨a, b, c, d⟩ := sub_iff.1 h
  obtain ⟨a', b', c', d'⟩ := sub_iff.1 h'
  exact S4.eqf (nand_anti a a') (nand_anti b b') (nand_anti c c') (nand_anti d d')
theorem sub_or (s t : S4) : sub s (s.or t) = true := sub_iff.2 ⟨nand_or _ _, nand_or _ _, nand_or _ _, nand_or _ _⟩
theorem sub_mono {s t : S4} (u : S4) (h : sub s t = true) : sub (s.or u) (t.or u) = true := by
  obtain ⟨a, b, c, d⟩ := sub_iff.1 h
  exact sub_iff.2 ⟨nand_mono _ a, nand_mono _ b, nand_mono _ c, nand_mono _ d⟩

/-- A first. -/
abbrev Fi := S4 × Bool
def Fi.v (x : Fi) : Value := fv x.1 x.2
def Fi.ok (x : Fi) : Prop := x.1.ok
def Fi.seq (x y : Fi) : Fi := if x.2 then (x.1.or y.1, y.2) else x
def Fi.cho (x y : Fi) : Fi := (x.1.or y.1, x.2 || y.2)
def Fi.sub (x y : Fi) : Bool := Go.Proofs.YtfjpbedcopdglaaGreatDoor.sub x.1 y.1 && (y.2 || !x.2)
def Fi.free : Fi := (S4.nil, true)

theorem Fi.ok_seq {x y : Fi} (hx : Fi.ok x) (hy : Fi.ok y) : Fi.ok (Fi.seq x y) := by
  unfold Fi.seq; split
  · exact S4.ok_or hx hy
  · exact hx
theorem Fi.ok_cho {x y : Fi} (hx : Fi.ok x) (hy : Fi.ok y) : Fi.ok (Fi.cho x y) := S4.ok_or hx hy
theorem Fi.seq_as (x y z : Fi) : Fi.seq (Fi.seq x y) z = Fi.seq x (Fi.seq y z) := by
  obtain ⟨s, f⟩ := x; obtain ⟨t, g⟩ := y; obtain ⟨u, h⟩ := z
  cases f <;> cases g <;> simp [Fi.seq, or_as]
theorem Fi.cho_as (x y z : Fi) : Fi.cho (Fi.cho x y) z = Fi.cho x (Fi.cho y z) := by simp [Fi.cho, or_as, Bool.or_assoc]
theorem Fi.cho_co (x y : Fi) : Fi.cho x y = Fi.cho y x := by simp [Fi.cho, or_co x.1, Bool.or_comm x.2]
theorem Fi.free_seq (x : Fi) : Fi.seq Fi.free x = x := by simp [Fi.seq, Fi.free, nil_or]
theorem Fi.seq_free (x : Fi) : Fi.seq x Fi.free = x := by
  obtain ⟨s, f⟩ := x
  cases f <;> simp [Fi.seq, Fi.free, or_nil]
theorem Fi.sub_refl (x : Fi) : Fi.sub x x = true := by
  unfold Fi.sub; rw [Go.Proofs.YtfjpbedcopdglaaGreatDoor.sub_refl]; cases x.2 <;> rfl
theorem Fi.sub_trans {x y z : Fi} (h : Fi.sub x y = true) (h' : Fi.sub y z = true) : Fi.sub x z = true := by
  unfold Fi.sub at *
  rw [Bool.and_eq_true] at *
  refine ⟨Go.Proofs.YtfjpbedcopdglaaGreatDoor.sub_trans h.1 h'.1, ?_⟩
  have h := h.2; have h' := h'.2
  revert h h'
  cases x.2 <;> cases y.2 <;> cases z.2 <;> decide
theorem Fi.sub_anti {x y : Fi} (h : Fi.sub x y = true) (h' : Fi.sub y x = true) : x = y := by
  unfold Fi.sub at *
  rw [Bool.and_eq_true] at *
  refine Prod.ext (Go.Proofs.YtfjpbedcopdglaaGreatDoor.sub_anti h.1 h'.1) ?_
  have h := h.2; have h' := h'.2
  revert h h'
  cases x.2 <;> cases y.2 <;> decide
theorem Fi.sub_cho (x y : Fi) : Fi.sub x (Fi.cho x y) = true := by
  unfold Fi.sub Fi.cho
  rw [Bool.and_eq_true]
  refine ⟨sub_or _ _, ?_⟩
  cases x.2 <;> cases y.2 <;> rfl
theorem sub_or_left {s t : S4} (u : S4) (h : Go.Proofs.YtfjpbedcopdglaaGreatDoor.sub s t = true) : Go.Proofs.YtfjpbedcopdglaaGreatDoor.sub s (t.or u) = true := Go.Proofs.YtfjpbedcopdglaaGreatDoor.sub_trans h (sub_or _ _)
theorem Fi.sub_seq {x y : Fi} (z : Fi) (h : Fi.sub x y = true) : Fi.sub (Fi.seq x z) (Fi.seq y z) = true := by
  obtain ⟨s, f⟩ := x; obtain ⟨t, g⟩ := y; obtain ⟨u, k⟩ := z
  unfold Fi.sub at *
  rw [Bool.and_eq_true] at *
  obtain ⟨h1, h2⟩ := h
  cases f <;> cases g <;> simp [Fi.seq] at * <;> first | exact h1 | exact sub_or_left u h1 | exact sub_mono u h1 | (refine ⟨?_, ?_⟩ <;> first | exact sub_or_left u h1 | exact sub_mono u h1 | (cases k <;> simp))

theorem seq_any (x y : Fi) (hx : Fi.ok x) (hy : Fi.ok y) (w : World) : Calls Tryz.prog 5 #[x.v, y.v] w fun e w' => e = .returned (Fi.seq x y).v ∧ Below w.heap.size w w' := by
  obtain ⟨s, f⟩ := x; obtain ⟨t, g⟩ := y
  cases f
  · exact seq0 s t g w
  · exact seq1 s t hx hy g w
theorem choice_any (x y : Fi) (hx : Fi.ok x) (hy : Fi.ok y) (w : World) : Calls Tryz.prog 7 #[x.v, y.v] w fun e w' => e = .returned (Fi.cho x y).v ∧ Below w.heap.size w w' := by
  obtain ⟨s, f⟩ := x; obtain ⟨t, g⟩ := y
  cases f
  · exact choice0 s t hx hy g w
  · exact choice1 s t hx hy g w
theorem sub_any (x y : Fi) (hx : Fi.ok x) (hy : Fi.ok y) (w : World) : Calls Tryz.prog 9 #[x.v, y.v] w fun e w' => e = .returned (.bool (Fi.sub x y)) ∧ Below w.heap.size w w' := within_any x.1 y.1 hx hy x.2 y.2 w
end Go.Proofs.YtfjpbedcopdglaaGreatDoor
