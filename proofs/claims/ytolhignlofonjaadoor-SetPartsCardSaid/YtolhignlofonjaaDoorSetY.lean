/- Where a set's runs begin and end, as plain mathematics. -/
import Derived.Test.YtolhignlofonjaaDoorSetP
namespace Go.Proofs.YtolhignlofonjaaDoor

theorem mem_lst_iff (s : S4) (n : Nat) : n ∈ s.lst ↔ n < 256 ∧ s.has n = true := by
  unfold S4.lst
  rw [List.mem_filter, List.mem_range]

theorem mem_span (p : UInt8 × UInt8) (n : Nat) : n ∈ span p ↔ p.1.toNat ≤ n ∧ n < p.1.toNat + (p.2.toNat + 1 - p.1.toNat) := by
  unfold span
  rw [List.mem_range'_1]

theorem has_run {s : S4} {n : Nat} (hn : n < 256) (h : s.has n = true) : ∃ (i : Nat) (p : UInt8 × UInt8), (runsOf s)[i]? = some p ∧ p.1.toNat ≤ n ∧ n ≤ p.2.toNat := by
  have hm : n ∈ flat (runsOf s) := by rw [runsOf_flat]; exact (mem_lst_iff s n).2 ⟨hn, h⟩
  unfold flat at hm
  obtain ⟨p, hp, hx⟩ := List.mem_flatMap.1 hm
  obtain ⟨i, hi⟩ := List.mem_iff_getElem?.1 hp
  rw [mem_span] at hx
  exact ⟨i, p, hi, hx.1, by omega⟩

theorem run_has {s : S4} {n i : Nat} {p : UInt8 × UInt8} (hp : (runsOf s)[i]? = some p) (h1 : p.1.toNat ≤ n) (h2 : n ≤ p.2.toNat) : s.has n = true := by
  have hm : n ∈ s.lst := by
    rw [← runsOf_flat]
    unfold flat
    exact List.mem_flatMap.2 ⟨p, List.mem_of_getElem? hp, (mem_span p n).2 ⟨h1, by omega⟩⟩
  exact ((mem_lst_iff s n).1 hm).2

theorem run_le {s : S4} {i : Nat} {p : UInt8 × UInt8} (hp : (runsOf s)[i]? = some p) : p.1.toNat ≤ p.2.toNat := (runsOf_runny s).1 p (List.mem_of_getElem? hp)

theorem runs_far (s : S4) : ∀ (d i : Nat) (p q : UInt8 × UInt8), (runsOf s)[i]? = some p → (runsOf s)[i + 1 + d]? = some q → p.2.toNat + 2 ≤ q.1.toNat
  | 0, i, p, q, hp, hq => (runsOf_runny s).2 i p q hp hq
  | d + 1, i, p, q, hp, hq => by
    have hlt : i + 1 + d < (runsOf s).length := by
      have := (List.getElem?_eq_some_iff.1 hq).1
      omega
    obtain ⟨r, hr⟩ : ∃ r, (runsOf s)[i + 1 + d]? = some r := ⟨_, List.getElem?_eq_getElem hlt⟩
    have h1 := runs_far s d i p r hp hr
    have h2 := run_le hr
    have h3 := (runsOf_runny s).2 (i + 1 + d) r q hr hq
    omega

theorem runs_order {s : S4} {i j : Nat} {p q : UInt8 × UInt8} (hp : (runsOf s)[i]? = some p) (hq : (runsOf s)[j]? = some q) (h : i < j) : p.2.toNat + 2 ≤ q.1.toNat := by
  obtain ⟨d, rfl⟩ : ∃ d, j = i + 1 + d := ⟨j - i - 1, by omega⟩
  exact runs_far s d i p q hp hq

theorem gap_after {s : S4} {j : Nat} {p : UInt8 × UInt8} (hp : (runsOf s)[j]? = some p) (h : p.2.toNat < 255) : s.has (p.2.toNat + 1) = false := by
  rw [Bool.eq_false_iff]
  intro hh
  obtain ⟨i, q, hq, h1, h2⟩ := has_run (by omega) hh
  rcases Nat.lt_trichotomy i j with hij | rfl | hij
  · have := runs_order hq hp hij
    have := run_le hp
    omega
  · rw [hp] at hq; cases hq; omega
  · have := runs_order hp hq hij
    omega

theorem gap_before {s : S4} {j : Nat} {p : UInt8 × UInt8} (hp : (runsOf s)[j]? = some p) (h : 0 < p.1.toNat) : s.has (p.1.toNat - 1) = false := by
  rw [Bool.eq_false_iff]
  intro hh
  have h256 := p.1.toNat_lt
  obtain ⟨i, q, hq, h1, h2⟩ := has_run (by omega) hh
  rcases Nat.lt_trichotomy i j with hij | rfl | hij
  · have := runs_order hq hp hij
    omega
  · rw [hp] at hq; cases hq; omega
  · have := runs_order hp hq hij
    have := run_le hp
    omega

/-- The runs ahead of j begin ahead of n, the others don't. -/
def Idx (s : S4) (j n : Nat) : Prop := j ≤ (runsOf s).length ∧ (∀ i p, i < j → (runsOf s)[i]? = some p → p.1.toNat < n) ∧ ∀ i p, j ≤ i → (runsOf s)[i]? = some p → n ≤ p.1.toNat

theorem Idx.zero (s : S4) : Idx s 0 0 := ⟨Nat.zero_le _, fun i p h => by omega, fun i p _ _ => Nat.zero_le _⟩

theorem Idx.yes {s : S4} {j n : Nat} (h : Idx s j n) (hn : n < 256) (h1 : s.has n = true) (h0 : n = 0 ∨ s.has (n - 1) = false) :
    ∃ p, (runsOf s)[j]? = some p ∧ p.1.toNat = n ∧ Idx s (j + 1) (n + 1) := by
  obtain ⟨i, p, hp, ha, hb⟩ := has_run hn h1
  have hpn : p.1.toNat = n := by
    rcases Nat.lt_or_ge p.1.toNat n with hlt | hge
    · have := run_has hp (n := n - 1) (by omega) (by omega)
      rcases h0 with h0 | h0
      · omega
      · rw [this] at h0; cases h0
    · omega
  have hij : j ≤ i := by
    rcases Nat.lt_or_ge i j with hlt | hge
    · have := h.2.1 i p hlt hp; omega
    · exact hge
  have hji : i = j := by
    rcases Nat.lt_or_ge j i with hlt | hge
    · have hjl : j < (runsOf s).length := by have := (List.getElem?_eq_some_iff.1 hp).1; omega
      obtain ⟨q, hq⟩ : ∃ q, (runsOf s)[j]? = some q := ⟨_, List.getElem?_eq_getElem hjl⟩
      have h2 := runs_order hq hp hlt
      have h3 := h.2.2 j q (Nat.le_refl _) hq
      have h4 := run_le hq
      omega
    · omega
  subst hji
  refine ⟨p, hp, hpn, (List.getElem?_eq_some_iff.1 hp).1, fun k q hk hq => ?_, fun k q hk hq => ?_⟩
  · rcases Nat.lt_succ_iff_lt_or_eq.1 hk with hlt | rfl
    · have := h.2.1 k q hlt hq; omega
    · rw [hp] at hq; cases hq; omega
  · have := runs_order hp hq (by omega)
    have := run_le hp
    omega

theorem Idx.no {s : S4} {j n : Nat} (h : Idx s j n) (h1 : s.has n = false ∨ (0 < n ∧ s.has (n - 1) = true)) : Idx s j (n + 1) := by
  refine ⟨h.1, fun i p hi hp => by have := h.2.1 i p hi hp; omega, fun i p hi hp => ?_⟩
  have h2 := h.2.2 i p hi hp
  rcases Nat.lt_or_ge n p.1.toNat with hlt | hge
  · exact hlt
  · exfalso
    have e : p.1.toNat = n := by omega
    rcases h1 with h1 | ⟨h0, h1⟩
    · rw [run_has hp (n := n) (by omega) (by have := run_le hp; omega)] at h1; cases h1
    · have := gap_before hp (by omega)
      rw [e, h1] at this; cases this

theorem Idx.all {s : S4} {j : Nat} (h : Idx s j 256) : (runsOf s).take j = runsOf s := by
  rcases Nat.lt_or_ge j (runsOf s).length with hlt | hge
  · obtain ⟨q, hq⟩ : ∃ q, (runsOf s)[j]? = some q := ⟨_, List.getElem?_eq_getElem hlt⟩
    have h1 := h.2.2 j q (Nat.le_refl _) hq
    have := q.1.toNat_lt
    omega
  · exact List.take_of_length_le hge
end Go.Proofs.YtolhignlofonjaaDoor
