/- What a walk of a statement carries along: the table, what was there before, and the boxes of its own; and how sets stand. -/
import Derived.Test.YtolhignlofonjaaDoorSetA
namespace Go.Proofs.YtolhignlofonjaaDoor
open Go.RowKit Go.Shelf

/-- From w on: the table lies; nothing that was there has changed; the blocks below N are those of W0. -/
def St (w W0 : World) (N : Nat) (W : World) : Prop := Tab W ∧ Below w.heap.size w W ∧ N ≤ W.heap.size ∧ ∀ k, k < N → W.heap[k]? = W0.heap[k]?
theorem St.tab {w W0 W : World} {N : Nat} (h : St w W0 N W) : Tab W := h.1
theorem St.below {w W0 W : World} {N : Nat} (h : St w W0 N W) : Below w.heap.size w W := h.2.1
theorem St.drew {w W0 W : World} {N : Nat} (h : St w W0 N W) : St w W0 N W.drew := ⟨h.1, h.2.1.drew, h.2.2⟩
theorem St.step {w W0 W W' : World} {N : Nat} (h : St w W0 N W) (hb : Below W.heap.size W W') : St w W0 N W' :=
  ⟨h.1.below hb h.1.lt, bstep h.2.1 hb, Nat.le_trans h.2.2.1 hb.size, fun k hk => (hb.block k (Nat.lt_of_lt_of_le hk h.2.2.1)).trans (h.2.2.2 k hk)⟩
theorem St.start {w W : World} (hT : Tab W) (hb : Below w.heap.size w W) : St w W W.heap.size W := ⟨hT, hb, Nat.le_refl _, fun _ _ => rfl⟩
theorem St.cell {w W0 W : World} {N : Nat} (h : St w W0 N W) : ∀ k o, k < N → W.cell? ⟨k, o, none⟩ = W0.cell? ⟨k, o, none⟩ := fun k _ hk => World.cell?_of_block (h.2.2.2 k hk)
theorem St.frozen {w W0 W : World} {N : Nat} (h : St w W0 N W) : ∀ k o, k < N → W.frozen? ⟨k, o, none⟩ = W0.frozen? ⟨k, o, none⟩ := fun k _ hk => World.frozen?_of_block (h.2.2.2 k hk)
theorem St.box {w W0 W : World} {N b : Nat} {s : S4} (h : St w W0 N W) (hb : Box4 W0 b s) (hlt : b < N) : Box4 W b s := (h.2.2.2 b hlt).trans hb

/-! ### How two lists of bytes stand -/
theorem cb_range : ∀ l m : List UInt8, -1 ≤ Lib.compareBytes l m ∧ Lib.compareBytes l m ≤ 1
  | [], [] => by simp [Lib.compareBytes]
  | [], _ :: _ => by simp [Lib.compareBytes]
  | _ :: _, [] => by simp [Lib.compareBytes]
  | a :: l, b :: m => by
    have ih := cb_range l m
    unfold Lib.compareBytes
    split
    · decide
    · split
      · decide
      · exact ih
theorem cb_turn : ∀ l m : List UInt8, Lib.compareBytes m l = -Lib.compareBytes l m
  | [], [] => by simp [Lib.compareBytes]
  | [], _ :: _ => by simp [Lib.compareBytes]
  | _ :: _, [] => by simp [Lib.compareBytes]
  | a :: l, b :: m => by
    have ih := cb_turn l m
    simp only [Lib.compareBytes, UInt8.lt_iff_toNat_lt]
    by_cases h1 : a.toNat < b.toNat
    · have h2 : ¬ b.toNat < a.toNat := by omega
      simp [h1, h2]
    · by_cases h2 : b.toNat < a.toNat
      · simp [h1, h2]
      · simp [h1, h2, ih]
theorem cb_zero : ∀ l m : List UInt8, Lib.compareBytes l m = 0 ↔ l = m
  | [], [] => by simp [Lib.compareBytes]
  | [], _ :: _ => by simp [Lib.compareBytes]
  | _ :: _, [] => by simp [Lib.compareBytes]
  | a :: l, b :: m => by
    have ih := cb_zero l m
    simp only [Lib.compareBytes, UInt8.lt_iff_toNat_lt, List.cons.injEq]
    by_cases h1 : a.toNat < b.toNat
    · have : ¬ a = b := fun e => by rw [e] at h1; omega
      simp [h1, this]
    · by_cases h2 : b.toNat < a.toNat
      · have : ¬ a = b := fun e => by rw [e] at h2; omega
        simp [h1, h2, this]
      · obtain rfl : a = b := UInt8.toNat_inj.1 (by omega)
        simp [ih]
theorem cb_trans : ∀ l m n : List UInt8, (Lib.compareBytes l m ≤ 0 → Lib.compareBytes m n ≤ 0 → Lib.compareBytes l n ≤ 0) ∧ (Lib.compareBytes l m < 0 → Lib.compareBytes m n ≤ 0 → Lib.compareBytes l n < 0) ∧ (Lib.compareBytes l m ≤ 0 → Lib.compareBytes m n < 0 → Lib.compareBytes l n < 0)
  | [], [], [] => by simp [Lib.compareBytes]
  | [], [], _ :: _ => by simp [Lib.compareBytes]
  | [], _ :: _, [] => by simp [Lib.compareBytes]
  | [], _ :: _, _ :: _ => by simp [Lib.compareBytes]
  | _ :: _, [], [] => by simp [Lib.compareBytes]
  | _ :: _, [], _ :: _ => by simp [Lib.compareBytes]
  | _ :: _, _ :: _, [] => by simp [Lib.compareBytes]
  | a :: l, b :: m, c :: n => by
    have ih := cb_trans l m n
    simp only [Lib.compareBytes, UInt8.lt_iff_toNat_lt]
    by_cases h1 : a.toNat < b.toNat
    · by_cases h3 : b.toNat < c.toNat
      · have h5 : a.toNat < c.toNat := by omega
        simp [h1, h3, h5]
      · by_cases h4 : c.toNat < b.toNat
        · simp [h1, h3, h4]
        · have h5 : a.toNat < c.toNat := by omega
          simp [h1, h3, h4, h5]
    · by_cases h2 : b.toNat < a.toNat
      · simp [h1, h2]
      · by_cases h3 : b.toNat < c.toNat
        · have h5 : a.toNat < c.toNat := by omega
          simp [h1, h2, h3, h5]
        · by_cases h4 : c.toNat < b.toNat
          · simp [h1, h2, h3, h4]
          · have h5 : ¬ a.toNat < c.toNat := by omega
            have h6 : ¬ c.toNat < a.toNat := by omega
            simp only [h1, h2, h3, h4, h5, h6, if_false]
            exact ih

theorem lstB_inj {s t : S4} (hs : s.ok) (ht : t.ok) (h : lstB s = lstB t) : s = t := by
  refine S4.lst_inj hs ht ?_
  have h2 := congrArg (List.map UInt8.toNat) h
  simp only [lstB, List.map_map] at h2
  have key : ∀ u : S4, u.lst.map (UInt8.toNat ∘ UInt8.ofNat) = u.lst := fun u => by
    conv => rhs; rw [← List.map_id u.lst]
    refine List.map_congr_left fun n hn => ?_
    have := (S4.mem_lst.1 hn).1
    simp only [Function.comp, UInt8.toNat_ofNat', id]
    omega
  rwa [key, key] at h2
theorem cmpS_zero {s t : S4} (hs : s.ok) (ht : t.ok) : cmpS s t = 0 ↔ s = t :=
  ⟨fun h => lstB_inj hs ht ((cb_zero _ _).1 h), fun h => by rw [h]; exact compareBytes_self _⟩
theorem cmpS_eq {s t : S4} (hs : s.ok) (ht : t.ok) : (cmpS s t == 0) = same4 s t := by
  rw [Bool.eq_iff_iff, beq_iff_eq, cmpS_zero hs ht, same4_iff]

/-! ### Sets within each other -/
theorem and_self_iff {s t : S4} (hs : s.ok) (ht : t.ok) : s.and t = s ↔ s.or t = t := by
  constructor
  · intro h
    refine S4.ext (S4.ok_or hs ht) ht fun n _ => ?_
    have h2 := S4.has_and s t n
    rw [h] at h2
    rw [S4.has_or]
    cases hx : s.has n <;> cases hy : t.has n <;> simp_all
  · intro h
    refine S4.ext (S4.ok_and hs ht) hs fun n _ => ?_
    have h2 := S4.has_or s t n
    rw [h] at h2
    rw [S4.has_and]
    cases hx : s.has n <;> cases hy : t.has n <;> simp_all
theorem same_sub {s t : S4} (hs : s.ok) (ht : t.ok) : same4 (s.and t) s = same4 (s.or t) t := by
  rw [Bool.eq_iff_iff, same4_iff, same4_iff, and_self_iff hs ht]
theorem and_and {s t : S4} (hs : s.ok) (ht : t.ok) : (s.and t).and s = s.and t := by
  refine S4.ext (S4.ok_and (S4.ok_and hs ht) hs) (S4.ok_and hs ht) fun n _ => ?_
  rw [S4.has_and, S4.has_and]
  cases s.has n <;> simp
theorem and_or {s t : S4} (hs : s.ok) (ht : t.ok) : s.and (s.or t) = s := by
  refine S4.ext (S4.ok_and hs (S4.ok_or hs ht)) hs fun n _ => ?_
  rw [S4.has_and, S4.has_or]
  cases s.has n <;> simp
end Go.Proofs.YtolhignlofonjaaDoor
