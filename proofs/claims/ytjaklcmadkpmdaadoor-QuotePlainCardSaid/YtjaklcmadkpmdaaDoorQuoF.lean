/- What is written is plain: as mathematics. -/
import Derived.Test.YtjaklcmadkpmdaaDoorQuoC
namespace Go.Proofs.YtjaklcmadkpmdaaDoor
open Go Go.RowKit

/-- Bytes of which none is q, but behind a backslash. -/
def allq (q : UInt8) : UInt8 → List UInt8 → Bool
  | _, [] => true
  | p, x :: r => (x != q || p == 92) && allq q x r
theorem allq_append (q : UInt8) : ∀ (p : UInt8) (l m : List UInt8), allq q p l = true → (∀ p, allq q p m = true) → allq q p (l ++ m) = true
  | p, [], m, _, h => h p
  | p, x :: r, m, h1, h2 => by
    rw [allq, Bool.and_eq_true] at h1
    rw [List.cons_append, allq, h1.1, Bool.true_and]
    exact allq_append q x r m h1.2 h2
theorem allq_flat (q : UInt8) {α : Type} (f : α → List UInt8) (hf : ∀ a p, allq q p (f a) = true) : ∀ (l : List α) (p : UInt8), allq q p (l.flatMap f) = true
  | [], _ => rfl
  | a :: l, p => by
    rw [List.flatMap_cons]
    exact allq_append q p _ _ (hf a p) fun p => allq_flat q f hf l p
theorem allq_at (q : UInt8) : ∀ (p : UInt8) (l : List UInt8), allq q p l = true → ∀ i : Nat, l[i]? = some q → (p :: l)[i]? = some 92
  | p, [], _, i, h => by simp at h
  | p, x :: r, h, 0, hi => by
    rw [allq, Bool.and_eq_true, Bool.or_eq_true, bne_iff_ne, beq_iff_eq] at h
    have hi : x = q := by simpa using hi
    rcases h.1 with h1 | h1
    · exact absurd hi h1
    · simp [h1]
  | p, x :: r, h, i + 1, hi => by
    rw [allq, Bool.and_eq_true] at h
    have hi : r[i]? = some q := by simpa using hi
    simpa using allq_at q x r h.2 i hi

def low (x : UInt8) : Bool := decide (32 ≤ x.toNat) && decide (x.toNat ≤ 126)
/-- The byte that ends it. -/
def endQ (cls : Bool) : UInt8 := if cls then 93 else 34
def okS (cls : Bool) (l : List UInt8) : Bool := l.all low && (match l with
  | [] => true
  | x :: r => x != endQ cls && allq (endQ cls) x r)
set_option maxRecDepth 100000 in
theorem signs_ok (cls : Bool) : below (fun b => okS cls ((sgn cls b).map UInt8.ofNat)) 256 = true := by cases cls <;> kernel_rfl
theorem sg_eq (cls : Bool) (b : UInt8) : sg cls b = (sgn cls b.toNat).map UInt8.ofNat := by
  unfold sg sgnB CE.bytesOf; rfl
theorem sg_ok (cls : Bool) (b : UInt8) : (∀ x ∈ sg cls b, low x = true) ∧ ∀ p, allq (endQ cls) p (sg cls b) = true := by
  have h := below_ok (signs_ok cls) b.toNat (UInt8.toNat_lt _)
  rw [← sg_eq] at h
  unfold okS at h
  rw [Bool.and_eq_true] at h
  refine ⟨fun x hx => List.all_eq_true.1 h.1 x hx, fun p => ?_⟩
  have h2 := h.2
  cases hs : sg cls b with
  | nil => rfl
  | cons x r =>
    rw [hs] at h2
    have h2 : (x != endQ cls && allq (endQ cls) x r) = true := h2
    rw [Bool.and_eq_true] at h2
    rw [allq, h2.1, h2.2]; rfl
theorem runL_ok (p : UInt8 × UInt8) : (∀ x ∈ runL p, low x = true) ∧ ∀ c, allq 93 c (runL p) = true := by
  obtain ⟨a1, a2⟩ := sg_ok true p.1
  obtain ⟨b1, b2⟩ := sg_ok true p.2
  have m : ∀ b : Bool, (∀ x ∈ (if b then [(45 : UInt8)] else []), low x = true) ∧ ∀ c, allq 93 c (if b then [45] else []) = true := fun b => by
    cases b
    · exact ⟨fun x hx => by simp at hx, fun c => rfl⟩
    · exact ⟨fun x hx => by simp at hx; subst hx; rfl, fun c => rfl⟩
  have e : ∀ b : Bool, (∀ x ∈ (if b then sg true p.2 else []), low x = true) ∧ ∀ c, allq 93 c (if b then sg true p.2 else []) = true := fun b => by
    cases b
    · exact ⟨fun x hx => by simp at hx, fun c => rfl⟩
    · exact ⟨fun x hx => b1 x (by simpa using hx), fun c => b2 c⟩
  unfold runL
  refine ⟨fun x hx => ?_, fun c => ?_⟩
  · rcases List.mem_append.1 hx with hx | hx
    · rcases List.mem_append.1 hx with hx | hx
      · exact a1 x hx
      · exact (m _).1 x hx
    · exact (e _).1 x hx
  · exact allq_append 93 c _ _ (allq_append 93 c _ _ (a2 c) (m _).2) (e _).2

/-- A text that is plain. -/
structure Fine (t : ByteArray) : Prop where
  len : 2 ≤ t.size ∨ t = ⟨#[46]⟩
  small : t.size ≤ 100000
  low : ∀ i (h : i < t.size), 32 ≤ t[i].toNat ∧ t[i].toNat ≤ 126
  inner : ∀ i (h : i + 1 + 1 < t.size), (t[0].toNat = 34 ∧ (t[i + 1].toNat = 34 → t[i].toNat = 92)) ∨ (t[0].toNat ≠ 34 ∧ (t[i + 1].toNat = 93 → t[i].toNat = 92))

theorem fine_of (cls : Bool) (f : UInt8) (body : List UInt8) (hf : f = if cls then 91 else 34) (hs : body.length ≤ 90000) (hl : ∀ x ∈ body, Go.Proofs.YtjaklcmadkpmdaaDoor.low x = true) (hq : ∀ p, allq (endQ cls) p body = true) : Fine ⟨([f] ++ body ++ [endQ cls]).toArray⟩ := by
  have hsz : (⟨([f] ++ body ++ [endQ cls]).toArray⟩ : ByteArray).size = body.length + 2 := by
    show ([f] ++ body ++ [endQ cls]).toArray.size = _
    simp
  have hat : ∀ i (h : i < (⟨([f] ++ body ++ [endQ cls]).toArray⟩ : ByteArray).size), ([f] ++ body ++ [endQ cls])[i]? = some ((⟨([f] ++ body ++ [endQ cls]).toArray⟩ : ByteArray)[i]) := fun i h => by
    have h' : i < ([f] ++ body ++ [endQ cls]).length := by rw [hsz] at h; simp; omega
    rw [List.getElem?_eq_getElem h']; rfl
  have hbody : ∀ i, i < body.length → ([f] ++ body ++ [endQ cls])[i + 1]? = body[i]? := fun i h => by
    rw [List.append_assoc, List.singleton_append, List.getElem?_cons_succ, List.getElem?_append_left h]
  refine ⟨.inl (by omega), by omega, fun i h => ?_, fun i h => ?_⟩
  · have hm := List.mem_of_getElem? (hat i h)
    have hlow : Go.Proofs.YtjaklcmadkpmdaaDoor.low ((⟨([f] ++ body ++ [endQ cls]).toArray⟩ : ByteArray)[i]) = true := by
      rcases List.mem_append.1 hm with hm | hm
      · rcases List.mem_append.1 hm with hm | hm
        · rw [List.mem_singleton.1 hm, hf]; cases cls <;> rfl
        · exact hl _ hm
      · rw [List.mem_singleton.1 hm]; cases cls <;> rfl
    unfold Go.Proofs.YtjaklcmadkpmdaaDoor.low at hlow
    simpa using hlow
  · have h0 : (⟨([f] ++ body ++ [endQ cls]).toArray⟩ : ByteArray)[0]'(by omega) = f := by
      have := hat 0 (by omega)
      simpa using this.symm
    have hb : i < body.length := by omega
    have key : (⟨([f] ++ body ++ [endQ cls]).toArray⟩ : ByteArray)[i + 1]'(by omega) = endQ cls → (⟨([f] ++ body ++ [endQ cls]).toArray⟩ : ByteArray)[i]'(by omega) = 92 := fun he => by
      have h1 := hat (i + 1) (by omega)
      rw [hbody i hb, he] at h1
      have h2 := allq_at (endQ cls) f body (hq f) i h1
      have h3 := hat i (by omega)
      have h4 : ([f] ++ body ++ [endQ cls])[i]? = (f :: body)[i]? := by
        rw [List.append_assoc, List.singleton_append]
        cases i with
        | zero => rfl
        | succ j => rw [List.getElem?_cons_succ, List.getElem?_cons_succ, List.getElem?_append_left (by omega)]
      rw [h4, h2] at h3
      exact (Option.some.inj h3).symm
    have nat : ∀ (a : UInt8) (n : Nat), n < 256 → a.toNat = n → a = UInt8.ofNat n := fun a n hn h => by
      rw [← h]; simp
    cases cls with
    | false =>
      left
      refine ⟨by rw [h0, hf]; rfl, fun h34 => ?_⟩
      rw [key (nat _ 34 (by decide) h34)]; rfl
    | true =>
      right
      refine ⟨by rw [h0, hf]; decide, fun h93 => ?_⟩
      rw [key (nat _ 93 (by decide) h93)]; rfl

theorem fine_lit (s : ByteArray) (hs : s.size ≤ 5000) : Fine ⟨(litL s).toArray⟩ := by
  have e : litL s = [34] ++ (s.data.toList.take s.size).flatMap (sg false) ++ [endQ false] := rfl
  rw [e]
  refine fine_of false 34 _ rfl ?_ (fun x hx => ?_) (allq_flat _ _ (fun b p => (sg_ok false b).2 p) _)
  · have := litP_len s s.size (Nat.le_refl _)
    unfold litP at this
    rw [List.length_append] at this
    omega
  · obtain ⟨b, _, hb⟩ := List.mem_flatMap.1 hx
    exact (sg_ok false b).1 x hb
theorem fine_cls (s : S4) : Fine ⟨(clsL s).toArray⟩ := by
  unfold clsL
  split
  · refine ⟨.inr rfl, by decide, fun i h => ?_, fun i h => ?_⟩
    · have h : i < 1 := h
      obtain rfl : i = 0 := by omega
      exact (show 32 ≤ (46 : UInt8).toNat ∧ (46 : UInt8).toNat ≤ 126 by decide)
    · have h : i + 1 + 1 < 1 := h
      omega
  · have e : clsP (rs (lstB s)) (rs (lstB s)).length ++ [93] = [91] ++ ((rs (lstB s)).take (rs (lstB s)).length).flatMap runL ++ [endQ true] := rfl
    rw [e]
    refine fine_of true 91 _ rfl ?_ (fun x hx => ?_) (allq_flat _ _ (fun p c => (runL_ok p).2 c) _)
    · have h1 := clsP_len (rs (lstB s)) _ (Nat.le_refl _)
      have h2 := rs256 s
      unfold clsP at h1
      rw [List.length_append] at h1
      omega
    · obtain ⟨b, _, hb⟩ := List.mem_flatMap.1 hx
      exact (runL_ok b).1 x hb

/-- What Class tells of any set. -/
theorem class_any {W0 w : World} (hI : Inv W0) (hb0 : Below W0.heap.size W0 w) (s : S4) (hs : s.ok) :
    Calls Tryd.prog 13 #[s.v] w fun e w' => e = .returned (.string ⟨(clsL s).toArray⟩) ∧ Below w.heap.size w w' := by
  unfold clsL
  cases h : same4 s S4.nil.not with
  | true => rw [if_pos rfl]; exact class_all s h
  | false => rw [if_neg (by simp)]; exact class_rest hI hb0 s hs h
end Go.Proofs.YtjaklcmadkpmdaaDoor
