/- Numbers as texts, as plain mathematics. -/
import Derived.Lib.ItoaNum
import Derived.Test.YtnonpolifipblaaDoorNamM
namespace Go.Proofs.YtnonpolifipblaaDoor

def valL (l : List UInt8) : Nat := l.foldl (fun a c => 10 * a + (c.toNat - 48)) 0

def digsL (l : List UInt8) : Bool := l.all fun c => digN c.toNat

/-- Is it a number's text? -/
def formL : List UInt8 → Bool
  | [] => false
  | a :: l => !(decide (a.toNat = 48) && !l.isEmpty) && digsL (a :: l)

theorem formL_cons (a : UInt8) (l : List UInt8) : formL (a :: l) = (!(decide (a.toNat = 48) && !l.isEmpty) && digsL (a :: l)) := rfl

theorem val_snoc (l : List UInt8) (c : UInt8) : valL (l ++ [c]) = 10 * valL l + (c.toNat - 48) := by
  unfold valL; rw [List.foldl_append]; rfl

theorem fold_ge : ∀ (m : List UInt8) (a : Nat), a ≤ m.foldl (fun a c => 10 * a + (c.toNat - 48)) a
  | [], _ => Nat.le_refl _
  | c :: m, a => by
    have := fold_ge m (10 * a + (c.toNat - 48))
    simp only [List.foldl_cons]; omega

theorem val_take_le (l : List UInt8) (k : Nat) : valL (l.take k) ≤ valL l := by
  have e : l = l.take k ++ l.drop k := (List.take_append_drop k l).symm
  rw [show valL l = valL (l.take k ++ l.drop k) from by rw [← e]]
  unfold valL
  rw [List.foldl_append]
  exact fold_ge _ _

theorem val_take_succ (l : List UInt8) (k : Nat) (h : k < l.length) : valL (l.take (k + 1)) = 10 * valL (l.take k) + (l[k].toNat - 48) := by
  rw [List.take_succ_eq_append_getElem h, val_snoc]

theorem digN_iff (n : Nat) : digN n = true ↔ 48 ≤ n ∧ n ≤ 57 := by unfold digN; simp

theorem digsL_snoc (l : List UInt8) (c : UInt8) : digsL (l ++ [c]) = (digsL l && digN c.toNat) := by
  unfold digsL; simp

theorem val_pos : ∀ (l : List UInt8) (a : UInt8), digN a.toNat = true → a.toNat ≠ 48 → 1 ≤ valL (a :: l) := fun l a h h1 => by
  have h2 := (digN_iff _).1 h
  have : valL (a :: l) = l.foldl (fun a c => 10 * a + (c.toNat - 48)) (10 * 0 + (a.toNat - 48)) := rfl
  rw [this]
  have := fold_ge l (10 * 0 + (a.toNat - 48))
  omega

theorem ofNat_toNat {d : Nat} (h : d < 10) : (UInt8.ofNat (48 + d)).toNat = 48 + d := by
  simp [UInt8.toNat_ofNat']; omega

theorem dec_one {u : Nat} (h : u < 10) : Lib.decDigits u = [UInt8.ofNat (48 + u)] := by rw [Lib.decDigits, dif_pos h]

theorem dec_more {u : Nat} (h : ¬ u < 10) : Lib.decDigits u = Lib.decDigits (u / 10) ++ [UInt8.ofNat (48 + u % 10)] := by rw [Lib.decDigits, dif_neg h]

theorem dec_ok (u : Nat) : valL (Lib.decDigits u) = u ∧ digsL (Lib.decDigits u) = true ∧ ∃ a r, Lib.decDigits u = a :: r ∧ (u = 0 ∨ a.toNat ≠ 48) ∧ (u = 0 → r = []) := by
  induction u using Nat.strongRecOn with
  | _ u ih =>
    by_cases h : u < 10
    · rw [dec_one h]
      have e := ofNat_toNat h
      refine ⟨by show 10 * 0 + ((UInt8.ofNat (48 + u)).toNat - 48) = u; rw [e]; omega, ?_, _, _, rfl, by rw [e]; omega, fun _ => rfl⟩
      unfold digsL
      simp only [List.all_cons, List.all_nil, Bool.and_true, digN_iff, e]
      omega
    · obtain ⟨h1, h2, a, r, h3, h4, h5⟩ := ih (u / 10) (by omega)
      have e := ofNat_toNat (d := u % 10) (by omega)
      rw [dec_more h]
      refine ⟨by rw [val_snoc, h1, e]; omega, by rw [digsL_snoc, h2, Bool.true_and, digN_iff, e]; omega, a, r ++ [UInt8.ofNat (48 + u % 10)], by rw [h3]; rfl, .inr (h4.resolve_left (by omega)), fun h0 => by omega⟩

theorem dec_form (u : Nat) : formL (Lib.decDigits u) = true := by
  obtain ⟨_, h2, a, r, h3, h4, h5⟩ := dec_ok u
  rw [h3] at h2 ⊢
  rw [formL_cons, h2, Bool.and_true]
  rcases h4 with h | h
  · rw [h5 h]; simp
  · simp [h]

theorem form_snoc {m : List UInt8} {c : UInt8} (hm : m ≠ []) (h : formL (m ++ [c]) = true) : formL m = true ∧ digN c.toNat = true ∧ 1 ≤ valL m := by
  cases m with
  | nil => exact absurd rfl hm
  | cons a r =>
    have h : (!(decide (a.toNat = 48) && !(r ++ [c]).isEmpty) && digsL (a :: (r ++ [c]))) = true := h
    rw [show a :: (r ++ [c]) = (a :: r) ++ [c] from rfl, digsL_snoc] at h
    simp only [Bool.and_eq_true, Bool.not_eq_true', Bool.and_eq_false_iff, decide_eq_false_iff_not] at h
    obtain ⟨h1, h2, h3⟩ := h
    have h1 : ¬ a.toNat = 48 := by
      rcases h1 with h | h
      · exact h
      · simp at h
    have ha : digN a.toNat = true := by
      unfold digsL at h2
      simp only [List.all_cons, Bool.and_eq_true] at h2
      exact h2.1
    refine ⟨?_, h3, val_pos r a ha h1⟩
    rw [formL_cons, h2]; simp [h1]

theorem dec_back : ∀ (n : Nat) (l : List UInt8), l.length = n → formL l = true → Lib.decDigits (valL l) = l := by
  intro n
  induction n with
  | zero =>
    intro l hl h
    rw [List.length_eq_zero_iff.1 hl] at h
    cases h
  | succ n ih =>
    intro l hl h
    obtain ⟨m, c, rfl⟩ : ∃ m c, l = m ++ [c] := ⟨l.dropLast, l.getLast (by intro e; rw [e] at hl; simp at hl), (List.dropLast_concat_getLast _).symm⟩
    by_cases hm : m = []
    · subst hm
      have h : digsL [c] = true := by
        unfold formL at h
        simp only [List.nil_append, Bool.and_eq_true] at h
        exact h.2
      have hd : digN c.toNat = true := by unfold digsL at h; simpa using h
      have hd := (digN_iff _).1 hd
      have e : valL ([] ++ [c]) = c.toNat - 48 := by show 10 * 0 + (c.toNat - 48) = _; omega
      rw [e, dec_one (by omega), show 48 + (c.toNat - 48) = c.toNat by omega]
      simp
    · obtain ⟨h1, h2, h3⟩ := form_snoc hm h
      have hd := (digN_iff _).1 h2
      have hv := val_snoc m c
      have hq : valL (m ++ [c]) / 10 = valL m := by omega
      have hr : valL (m ++ [c]) % 10 = c.toNat - 48 := by omega
      rw [dec_more (by omega), hq, hr, ih m (by simpa using hl) h1, show 48 + (c.toNat - 48) = c.toNat by omega]
      simp
end Go.Proofs.YtnonpolifipblaaDoor
