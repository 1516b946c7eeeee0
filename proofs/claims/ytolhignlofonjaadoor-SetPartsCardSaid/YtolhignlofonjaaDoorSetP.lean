/- The runs of a set, as plain mathematics: each from a byte to one that is not less, the next one two behind at least, and all of them together are the set's bytes. -/
import Derived.Test.YtolhignlofonjaaDoorSetB
namespace Go.Proofs.YtolhignlofonjaaDoor
open Go.RowKit Go.Shelf

/-- From a byte to a byte. -/
def span (p : UInt8 × UInt8) : List Nat := List.range' p.1.toNat (p.2.toNat + 1 - p.1.toNat)
/-- The bytes of runs. -/
def flat (R : List (UInt8 × UInt8)) : List Nat := R.flatMap span
theorem flat_append (R Q : List (UInt8 × UInt8)) : flat (R ++ Q) = flat R ++ flat Q := by simp [flat]
theorem flat_one (p : UInt8 × UInt8) : flat [p] = span p := by simp [flat]
/-- Runs that stand as they should. -/
def Runny (R : List (UInt8 × UInt8)) : Prop := (∀ p ∈ R, p.1.toNat ≤ p.2.toNat) ∧ ∀ i p q, R[i]? = some p → R[i + 1]? = some q → p.2.toNat + 2 ≤ q.1.toNat

theorem runny_snoc {R : List (UInt8 × UInt8)} {p q : UInt8 × UInt8} (h : Runny (R ++ [p])) (hq : q.1.toNat ≤ q.2.toNat) (hpq : p.2.toNat + 2 ≤ q.1.toNat) : Runny (R ++ [p] ++ [q]) := by
  refine ⟨fun r hr => ?_, fun i a b ha hb => ?_⟩
  · rw [List.mem_append, List.mem_singleton] at hr
    rcases hr with hr | rfl
    · exact h.1 r hr
    · exact hq
  · have hlen : i + 1 < (R ++ [p] ++ [q]).length := (List.getElem?_eq_some_iff.1 hb).1
    simp only [List.length_append, List.length_cons, List.length_nil] at hlen
    by_cases hi : i + 1 < R.length + 1
    · rw [List.getElem?_append_left (by simp; omega)] at ha hb
      exact h.2 i a b ha hb
    · have e : i = R.length := by omega
      subst e
      rw [List.getElem?_append_left (by simp), List.getElem?_append_right (Nat.le_refl _), Nat.sub_self] at ha
      rw [List.getElem?_append_right (by simp)] at hb
      simp at ha hb
      subst ha; subst hb
      exact hpq
theorem runny_last {R : List (UInt8 × UInt8)} {p : UInt8 × UInt8} {b : UInt8} (h : Runny (R ++ [p])) (hb : p.2.toNat ≤ b.toNat) : Runny (R ++ [(p.1, b)]) := by
  have hp := h.1 p (by simp)
  refine ⟨fun r hr => ?_, fun i a c ha hc => ?_⟩
  · rw [List.mem_append, List.mem_singleton] at hr
    rcases hr with hr | rfl
    · exact h.1 r (List.mem_append_left _ hr)
    · show p.1.toNat ≤ b.toNat; omega
  · have hlen : i + 1 < (R ++ [(p.1, b)]).length := (List.getElem?_eq_some_iff.1 hc).1
    simp only [List.length_append, List.length_cons, List.length_nil] at hlen
    rw [List.getElem?_append_left (by omega)] at ha
    by_cases hi : i + 1 < R.length
    · rw [List.getElem?_append_left hi] at hc
      exact h.2 i a c (by rw [List.getElem?_append_left (by omega)]; exact ha) (by rw [List.getElem?_append_left hi]; exact hc)
    · have e : i + 1 = R.length := by omega
      rw [List.getElem?_append_right (by omega), e, Nat.sub_self] at hc
      simp at hc
      subst hc
      exact h.2 i a p (by rw [List.getElem?_append_left (by omega)]; exact ha) (by rw [List.getElem?_append_right (by omega), e, Nat.sub_self]; rfl)

/-- What is so of the runs of rising bytes. -/
theorem rs_spec (l : List UInt8) (hl : l.Pairwise fun a b => a.toNat < b.toNat) : Runny (rs l) ∧ flat (rs l) = l.map UInt8.toNat ∧ ∀ p, (rs l).getLast? = some p → l.getLast? = some p.2 := by
  generalize hn : l.length = n
  induction n generalizing l with
  | zero =>
    obtain rfl := List.length_eq_zero_iff.1 hn
    exact ⟨⟨by simp [rs], by simp [rs]⟩, rfl, by simp [rs]⟩
  | succ n ih =>
    rcases List.eq_nil_or_concat l with rfl | ⟨m, b, rfl⟩
    · simp at hn
    · rw [List.concat_eq_append] at hn hl ⊢
      have hm : m.Pairwise fun a b => a.toNat < b.toNat := (List.pairwise_append.1 hl).1
      have hlt : ∀ a ∈ m, a.toNat < b.toNat := fun a ha => (List.pairwise_append.1 hl).2.2 a ha b (by simp)
      obtain ⟨h1, h2, h3⟩ := ih m hm (by simpa using hn)
      rw [rs_snoc]
      rcases List.eq_nil_or_concat (rs m) with hr | ⟨R, p, hr⟩
      · rw [hr] at h2 ⊢
        have hm0 : m = [] := by
          have : m.map UInt8.toNat = [] := h2.symm
          simpa using this
        subst hm0
        rw [addRun_nil]
        refine ⟨⟨by simp, by intro i a c ha hc; simp at hc⟩, ?_, by simp⟩
        simp [flat, span]
      · rw [List.concat_eq_append] at hr
        rw [hr] at h1 h2 h3 ⊢
        have hlast := h3 p (by simp)
        have hpb : p.2.toNat < b.toNat := hlt p.2 (List.mem_of_getLast? hlast)
        have hpp := h1.1 p (by simp)
        by_cases hz : p.2.toNat + 1 = b.toNat
        · rw [addRun_on _ _ _ hz]
          refine ⟨runny_last h1 (by omega), ?_, by simp⟩
          rw [flat_append, flat_one] at h2 ⊢
          rw [List.map_append, ← h2]
          have e : span (p.1, b) = span p ++ [b.toNat] := by
            unfold span
            show List.range' p.1.toNat (b.toNat + 1 - p.1.toNat) = _
            rw [show b.toNat + 1 - p.1.toNat = (p.2.toNat + 1 - p.1.toNat) + 1 by omega, List.range'_1_concat, show p.1.toNat + (p.2.toNat + 1 - p.1.toNat) = b.toNat by omega]
          rw [e]; simp
        · rw [addRun_new _ _ _ hz]
          refine ⟨runny_snoc h1 (Nat.le_refl _) (by show p.2.toNat + 2 ≤ b.toNat; omega), ?_, by simp⟩
          rw [flat_append, h2, flat_one, List.map_append]
          simp [span]

theorem lstB_rising (s : S4) : (lstB s).Pairwise fun a b => a.toNat < b.toNat := by
  unfold lstB S4.lst
  rw [List.pairwise_map]
  have h : (List.range 256).Pairwise (· < ·) := List.pairwise_lt_range
  refine ((h.filter s.has).imp_of_mem ?_)
  intro a b ha hb hab
  have h1 := (S4.mem_lst.1 (show a ∈ s.lst from ha)).1
  have h2 := (S4.mem_lst.1 (show b ∈ s.lst from hb)).1
  rw [UInt8.toNat_ofNat', UInt8.toNat_ofNat']
  omega
theorem lstB_nums (s : S4) : (lstB s).map UInt8.toNat = s.lst := by
  simp only [lstB, List.map_map]
  conv => rhs; rw [← List.map_id s.lst]
  refine List.map_congr_left fun n hn => ?_
  have := (S4.mem_lst.1 hn).1
  simp only [Function.comp, UInt8.toNat_ofNat', id]
  omega
theorem ofL_or (A B : List Nat) (hA : ∀ n ∈ A, n < 256) (hB : ∀ n ∈ B, n < 256) : (S4.nil.ofL A).or (S4.nil.ofL B) = S4.nil.ofL (A ++ B) := by
  refine S4.ext (S4.ok_or (S4.ok_ofL _ S4.ok_nil) (S4.ok_ofL _ S4.ok_nil)) (S4.ok_ofL _ S4.ok_nil) fun n hn => ?_
  rw [S4.has_or, S4.has_ofL _ _ hA n hn, S4.has_ofL _ _ hB n hn, S4.has_ofL _ _ (by intro m hm; rcases List.mem_append.1 hm with h | h; exact hA m h; exact hB m h) n hn, S4.has_nil]
  simp
theorem span_lt (p : UInt8 × UInt8) : ∀ n ∈ span p, n < 256 := by
  intro n hn
  simp only [span, List.mem_range'_1] at hn
  have := p.2.toNat_lt
  omega
theorem flat_lt (R : List (UInt8 × UInt8)) : ∀ n ∈ flat R, n < 256 := by
  intro n hn
  simp only [flat, List.mem_flatMap] at hn
  obtain ⟨p, _, hp⟩ := hn
  exact span_lt p n hp
theorem span_len (p : UInt8 × UInt8) : (span p).length = p.2.toNat + 1 - p.1.toNat := by simp [span]
theorem runsV_at : ∀ (R : List (UInt8 × UInt8)) (j : Nat) (p : UInt8 × UInt8), R[j]? = some p → (runsV R)[j * 2]? = some (.int .u8 p.1.toNat) ∧ (runsV R)[j * 2 + 1]? = some (.int .u8 p.2.toNat)
  | [], j, p, h => by simp at h
  | q :: R, 0, p, h => by
    simp at h
    subst h
    exact ⟨rfl, rfl⟩
  | q :: R, j + 1, p, h => by
    have ih := runsV_at R j p (by simpa using h)
    have e : runsV (q :: R) = byteV q.1 :: byteV q.2 :: runsV R := rfl
    rw [e, show (j + 1) * 2 = j * 2 + 1 + 1 by omega]
    simpa using ih
/-- Of a set's runs. -/
def runsOf (s : S4) : List (UInt8 × UInt8) := rs (lstB s)
theorem runsOf_runny (s : S4) : Runny (runsOf s) := (rs_spec _ (lstB_rising s)).1
theorem runsOf_flat (s : S4) : flat (runsOf s) = s.lst := (rs_spec _ (lstB_rising s)).2.1.trans (lstB_nums s)
/-- The set of the first k runs. -/
def upTo (s : S4) (k : Nat) : S4 := S4.nil.ofL (flat ((runsOf s).take k))
theorem ok_upTo (s : S4) (k : Nat) : (upTo s k).ok := S4.ok_ofL _ S4.ok_nil
theorem upTo_zero (s : S4) : upTo s 0 = S4.nil := rfl
theorem upTo_all {s : S4} (hs : s.ok) : upTo s (runsOf s).length = s := by
  unfold upTo
  rw [List.take_length, runsOf_flat, S4.ofL_lst hs]
theorem upTo_succ (s : S4) (k : Nat) (p : UInt8 × UInt8) (hp : (runsOf s)[k]? = some p) : (upTo s k).or (S4.nil.ofL (span p)) = upTo s (k + 1) := by
  unfold upTo
  rw [ofL_or _ _ (flat_lt _) (span_lt _), List.take_add_one, hp, flat_append]
  simp [flat]
/-- How many bytes the first k runs have. -/
def cntTo (s : S4) (k : Nat) : Nat := (flat ((runsOf s).take k)).length
theorem cntTo_zero (s : S4) : cntTo s 0 = 0 := rfl
theorem cntTo_all (s : S4) : cntTo s (runsOf s).length = s.lst.length := by
  unfold cntTo; rw [List.take_length, runsOf_flat]
theorem cntTo_succ (s : S4) (k : Nat) (p : UInt8 × UInt8) (hp : (runsOf s)[k]? = some p) : cntTo s (k + 1) = cntTo s k + (p.2.toNat + 1 - p.1.toNat) := by
  unfold cntTo
  rw [List.take_add_one, hp, flat_append, List.length_append, ← span_len]
  simp [flat]
theorem cntTo_le (s : S4) (k : Nat) : cntTo s k ≤ 256 := by
  have h : cntTo s k ≤ (flat (runsOf s)).length := by
    have e : runsOf s = (runsOf s).take k ++ (runsOf s).drop k := (List.take_append_drop k _).symm
    unfold cntTo
    conv => rhs; rw [e, flat_append, List.length_append]
    omega
  rw [runsOf_flat] at h
  have h2 := List.length_filter_le s.has (List.range 256)
  rw [List.length_range] at h2
  exact Nat.le_trans h h2
end Go.Proofs.YtolhignlofonjaaDoor
