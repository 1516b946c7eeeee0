/- The document's own Runs: for every set. -/
import Derived.Test.YtjaklcmadkpmdaaDoorQuoPa
import Derived.Test.YtjaklcmadkpmdaaDoorQuoF
section
namespace Go.Proofs.YtjaklcmadkpmdaaDoor
open Go Go.RowKit Go.Shelf
attribute [local go_sem] Oper.semAt_some

theorem lstB_len (s : S4) : (lstB s).length = s.lst.length := by simp [lstB]
theorem lst_le (s : S4) : s.lst.length ≤ 256 := by
  have := List.length_filter_le s.has (List.range 256)
  rw [List.length_range] at this
  exact this

theorem ownBelow {w w' : World} {B e size n : Nat} {v : Value} {xs : List Value} (h : w.ownsRow B e size v n xs) (hb : Below w.heap.size w w') : w'.ownsRow B e size v n xs := by
  refine ⟨h.1, ?_⟩
  rcases h.2 with hn | ⟨g, cap, cur, rfl, hg, hgg, rest⟩
  · exact .inl hn
  · exact .inr ⟨g, cap, cur, rfl, hg, by rw [hb.block g (Array.getElem?_eq_some_iff.1 hgg).1]; exact hgg, rest⟩
theorem ownNot {w : World} {B e size n b : Nat} {v : Value} {xs : List Value} (h : w.ownsRow B e size v n xs) (hb : b < B) : some b ≠ v.ownBlock := by
  rcases h.2 with ⟨rfl, _⟩ | ⟨g, cap, cur, rfl, hg, _⟩
  · simp [Value.ownBlock]
  · simp [Value.ownBlock]; omega
theorem ownAt {w : World} {B e size n : Nat} {v : Value} {xs : List Value} (h : w.ownsRow B e size v n xs) : ∀ k, v.ownBlock = some k → B ≤ k := by
  rcases h.2 with ⟨rfl, _⟩ | ⟨g, cap, cur, rfl, hg, _⟩
  · simp [Value.ownBlock]
  · intro k hk; simp [Value.ownBlock] at hk; omega
theorem Box4.kept {W W' : World} {row : Option Nat} {b : Nat} {s : S4} (h : Box4 W b s) (hg : W.grownBy W' row) (hne : some b ≠ row) : Box4 W' b s := (hg.block b h.lt hne).trans h



/-- From a byte to a byte. -/
def span (p : UInt8 × UInt8) : List Nat := List.range' p.1.toNat (p.2.toNat + 1 - p.1.toNat)
/-- The bytes of runs. -/
def flat (R : List (UInt8 × UInt8)) : List Nat := R.flatMap span
theorem flat_append (R Q : List (UInt8 × UInt8)) : flat (R ++ Q) = flat R ++ flat Q := by simp [flat]
theorem flat_one (p : UInt8 × UInt8) : flat [p] = span p := by simp [flat]
/-- Runs that stand as they should. -/
def Runny (R : List (UInt8 × UInt8)) : Prop := (∀ p ∈ R, p.1.toNat ≤ p.2.toNat) ∧ ∀ i p q, R[i]? = some p → R[i + 1]? = some q → p.2.toNat + 2 ≤ q.1.toNat

theorem runny_snoc {R : List (UInt8 × UInt8)} {p q : UInt8 × UInt8} (h : Runny (R ++ [p])) (hq : q.1.toNat ≤ q.2.toNat) (hpq : p.2.toNat + 2 ≤ q.1.toNat) : Runny (R ++ [p] ++ [q]) := by
  refine ⟨fun r hr => ?_, fun i a b ha hb => ?_⟩
  · rw [List.mem_append, List.mem_singleton] at hr
    rcases hr with hr | rfl
    · exact h.1 r hr
    · exact hq
  · have hlen : i + 1 < (R ++ [p] ++ [q]).length := (List.getElem?_eq_some_iff.1 hb).1
    simp only [List.length_append, List.length_cons, List.length_nil] at hlen
    by_cases hi : i + 1 < R.length + 1
    · rw [List.getElem?_append_left (by simp; omega)] at ha hb
      exact h.2 i a b ha hb
    · have e : i = R.length := by omega
      subst e
      rw [List.getElem?_append_left (by simp), List.getElem?_append_right (Nat.le_refl _), Nat.sub_self] at ha
      rw [List.getElem?_append_right (by simp)] at hb
      simp at ha hb
      subst ha; subst hb
      exact hpq
theorem runny_last {R : List (UInt8 × UInt8)} {p : UInt8 × UInt8} {b : UInt8} (h : Runny (R ++ [p])) (hb : p.2.toNat ≤ b.toNat) : Runny (R ++ [(p.1, b)]) := by
  have hp := h.1 p (by simp)
  refine ⟨fun r hr => ?_, fun i a c ha hc => ?_⟩
  · rw [List.mem_append, List.mem_singleton] at hr
    rcases hr with hr | rfl
    · exact h.1 r (List.mem_append_left _ hr)
    · show p.1.toNat ≤ b.toNat; omega
  · have hlen : i + 1 < (R ++ [(p.1, b)]).length := (List.getElem?_eq_some_iff.1 hc).1
    simp only [List.length_append, List.length_cons, List.length_nil] at hlen
    rw [List.getElem?_append_left (by omega)] at ha
    by_cases hi : i + 1 < R.length
    · rw [List.getElem?_append_left hi] at hc
      exact h.2 i a c (by rw [List.getElem?_append_left (by omega)]; exact ha) (by rw [List.getElem?_append_left hi]; exact hc)
    · have e : i + 1 = R.length := by omega
      rw [List.getElem?_append_right (by omega), e, Nat.sub_self] at hc
      simp at hc
      subst hc
      exact h.2 i a p (by rw [List.getElem?_append_left (by omega)]; exact ha) (by rw [List.getElem?_append_right (by omega), e, Nat.sub_self]; rfl)

/-- What is so of the runs of rising bytes. -/
theorem rs_runny (l : List UInt8) (hl : l.Pairwise fun a b => a.toNat < b.toNat) : Runny (rs l) ∧ flat (rs l) = l.map UInt8.toNat ∧ ∀ p, (rs l).getLast? = some p → l.getLast? = some p.2 := by
  generalize hn : l.length = n
  induction n generalizing l with
  | zero =>
    obtain rfl := List.length_eq_zero_iff.1 hn
    exact ⟨⟨by simp [rs], by simp [rs]⟩, rfl, by simp [rs]⟩
  | succ n ih =>
    rcases List.eq_nil_or_concat l with rfl | ⟨m, b, rfl⟩
    · simp at hn
    · rw [List.concat_eq_append] at hn hl ⊢
      have hm : m.Pairwise fun a b => a.toNat < b.toNat := (List.pairwise_append.1 hl).1
      have hlt : ∀ a ∈ m, a.toNat < b.toNat := fun a ha => (List.pairwise_append.1 hl).2.2 a ha b (by simp)
      obtain ⟨h1, h2, h3⟩ := ih m hm (by simpa using hn)
      rw [rs_snoc]
      rcases List.eq_nil_or_concat (rs m) with hr | ⟨R, p, hr⟩
      · rw [hr] at h2 ⊢
        have hm0 : m = [] := by
          have : m.map UInt8.toNat = [] := h2.symm
          simpa using this
        subst hm0
        rw [addRun_nil]
        refine ⟨⟨by simp, by intro i a c ha hc; simp at hc⟩, ?_, by simp⟩
        simp [flat, span]
      · rw [List.concat_eq_append] at hr
        rw [hr] at h1 h2 h3 ⊢
        have hlast := h3 p (by simp)
        have hpb : p.2.toNat < b.toNat := hlt p.2 (List.mem_of_getLast? hlast)
        have hpp := h1.1 p (by simp)
        by_cases hz : p.2.toNat + 1 = b.toNat
        · rw [addRun_on _ _ _ hz]
          refine ⟨runny_last h1 (by omega), ?_, by simp⟩
          rw [flat_append, flat_one] at h2 ⊢
          rw [List.map_append, ← h2]
          have e : span (p.1, b) = span p ++ [b.toNat] := by
            unfold span
            show List.range' p.1.toNat (b.toNat + 1 - p.1.toNat) = _
            rw [show b.toNat + 1 - p.1.toNat = (p.2.toNat + 1 - p.1.toNat) + 1 by omega, List.range'_1_concat, show p.1.toNat + (p.2.toNat + 1 - p.1.toNat) = b.toNat by omega]
          rw [e]; simp
        · rw [addRun_new _ _ _ hz]
          refine ⟨runny_snoc h1 (Nat.le_refl _) (by show p.2.toNat + 2 ≤ b.toNat; omega), ?_, by simp⟩
          rw [flat_append, h2, flat_one, List.map_append]
          simp [span]

theorem lstB_nums (s : S4) : (lstB s).map UInt8.toNat = s.lst := by
  simp only [lstB, List.map_map]
  conv => rhs; rw [← List.map_id s.lst]
  refine List.map_congr_left fun n hn => ?_
  have := (S4.mem_lst.1 hn).1
  simp only [Function.comp, UInt8.toNat_ofNat', id]
  omega
theorem ofL_or (A B : List Nat) (hA : ∀ n ∈ A, n < 256) (hB : ∀ n ∈ B, n < 256) : (S4.nil.ofL A).or (S4.nil.ofL B) = S4.nil.ofL (A ++ B) := by
  refine S4.ext (S4.ok_or (S4.ok_ofL _ S4.ok_nil) (S4.ok_ofL _ S4.ok_nil)) (S4.ok_ofL _ S4.ok_nil) fun n hn => ?_
  rw [S4.has_or, S4.has_ofL _ _ hA n hn, S4.has_ofL _ _ hB n hn, S4.has_ofL _ _ (by intro m hm; rcases List.mem_append.1 hm with h | h; exact hA m h; exact hB m h) n hn, S4.has_nil]
  simp
theorem span_lt (p : UInt8 × UInt8) : ∀ n ∈ span p, n < 256 := by
  intro n hn
  simp only [span, List.mem_range'_1] at hn
  have := p.2.toNat_lt
  omega
theorem flat_lt (R : List (UInt8 × UInt8)) : ∀ n ∈ flat R, n < 256 := by
  intro n hn
  simp only [flat, List.mem_flatMap] at hn
  obtain ⟨p, _, hp⟩ := hn
  exact span_lt p n hp
theorem span_len (p : UInt8 × UInt8) : (span p).length = p.2.toNat + 1 - p.1.toNat := by simp [span]
/-- Of a set's runs. -/
def runsOf (s : S4) : List (UInt8 × UInt8) := rs (lstB s)
theorem runsOf_runny (s : S4) : Runny (runsOf s) := (rs_runny _ (lstB_rising s)).1
theorem runsOf_flat (s : S4) : flat (runsOf s) = s.lst := (rs_runny _ (lstB_rising s)).2.1.trans (lstB_nums s)

theorem mem_lst_iff (s : S4) (n : Nat) : n ∈ s.lst ↔ n < 256 ∧ s.has n = true := by
  unfold S4.lst
  rw [List.mem_filter, List.mem_range]

theorem mem_span (p : UInt8 × UInt8) (n : Nat) : n ∈ span p ↔ p.1.toNat ≤ n ∧ n < p.1.toNat + (p.2.toNat + 1 - p.1.toNat) := by
  unfold span
  rw [List.mem_range'_1]

theorem has_run {s : S4} {n : Nat} (hn : n < 256) (h : s.has n = true) : ∃ (i : Nat) (p : UInt8 × UInt8), (runsOf s)[i]? = some p ∧ p.1.toNat ≤ n ∧ n ≤ p.2.toNat := by
  have hm : n ∈ flat (runsOf s) := by rw [runsOf_flat]; exact (mem_lst_iff s n).2 ⟨hn, h⟩
  unfold flat at hm
  obtain ⟨p, hp, hx⟩ := List.mem_flatMap.1 hm
  obtain ⟨i, hi⟩ := List.mem_iff_getElem?.1 hp
  rw [mem_span] at hx
  exact ⟨i, p, hi, hx.1, by omega⟩

theorem run_has {s : S4} {n i : Nat} {p : UInt8 × UInt8} (hp : (runsOf s)[i]? = some p) (h1 : p.1.toNat ≤ n) (h2 : n ≤ p.2.toNat) : s.has n = true := by
  have hm : n ∈ s.lst := by
    rw [← runsOf_flat]
    unfold flat
    exact List.mem_flatMap.2 ⟨p, List.mem_of_getElem? hp, (mem_span p n).2 ⟨h1, by omega⟩⟩
  exact ((mem_lst_iff s n).1 hm).2

theorem run_le {s : S4} {i : Nat} {p : UInt8 × UInt8} (hp : (runsOf s)[i]? = some p) : p.1.toNat ≤ p.2.toNat := (runsOf_runny s).1 p (List.mem_of_getElem? hp)

theorem runs_far (s : S4) : ∀ (d i : Nat) (p q : UInt8 × UInt8), (runsOf s)[i]? = some p → (runsOf s)[i + 1 + d]? = some q → p.2.toNat + 2 ≤ q.1.toNat
  | 0, i, p, q, hp, hq => (runsOf_runny s).2 i p q hp hq
  | d + 1, i, p, q, hp, hq => by
    have hlt : i + 1 + d < (runsOf s).length := by
      have := (List.getElem?_eq_some_iff.1 hq).1
      omega
    obtain ⟨r, hr⟩ : ∃ r, (runsOf s)[i + 1 + d]? = some r := ⟨_, List.getElem?_eq_getElem hlt⟩
    have h1 := runs_far s d i p r hp hr
    have h2 := run_le hr
    have h3 := (runsOf_runny s).2 (i + 1 + d) r q hr hq
    omega

theorem runs_order {s : S4} {i j : Nat} {p q : UInt8 × UInt8} (hp : (runsOf s)[i]? = some p) (hq : (runsOf s)[j]? = some q) (h : i < j) : p.2.toNat + 2 ≤ q.1.toNat := by
  obtain ⟨d, rfl⟩ : ∃ d, j = i + 1 + d := ⟨j - i - 1, by omega⟩
  exact runs_far s d i p q hp hq

theorem gap_after {s : S4} {j : Nat} {p : UInt8 × UInt8} (hp : (runsOf s)[j]? = some p) (h : p.2.toNat < 255) : s.has (p.2.toNat + 1) = false := by
  rw [Bool.eq_false_iff]
  intro hh
  obtain ⟨i, q, hq, h1, h2⟩ := has_run (by omega) hh
  rcases Nat.lt_trichotomy i j with hij | rfl | hij
  · have := runs_order hq hp hij
    have := run_le hp
    omega
  · rw [hp] at hq; cases hq; omega
  · have := runs_order hp hq hij
    omega

theorem gap_before {s : S4} {j : Nat} {p : UInt8 × UInt8} (hp : (runsOf s)[j]? = some p) (h : 0 < p.1.toNat) : s.has (p.1.toNat - 1) = false := by
  rw [Bool.eq_false_iff]
  intro hh
  have h256 := p.1.toNat_lt
  obtain ⟨i, q, hq, h1, h2⟩ := has_run (by omega) hh
  rcases Nat.lt_trichotomy i j with hij | rfl | hij
  · have := runs_order hq hp hij
    omega
  · rw [hp] at hq; cases hq; omega
  · have := runs_order hp hq hij
    have := run_le hp
    omega

/-- The runs ahead of j begin ahead of n, the others don't. -/
def Idx (s : S4) (j n : Nat) : Prop := j ≤ (runsOf s).length ∧ (∀ i p, i < j → (runsOf s)[i]? = some p → p.1.toNat < n) ∧ ∀ i p, j ≤ i → (runsOf s)[i]? = some p → n ≤ p.1.toNat

theorem Idx.zero (s : S4) : Idx s 0 0 := ⟨Nat.zero_le _, fun i p h => by omega, fun i p _ _ => Nat.zero_le _⟩

theorem Idx.yes {s : S4} {j n : Nat} (h : Idx s j n) (hn : n < 256) (h1 : s.has n = true) (h0 : n = 0 ∨ s.has (n - 1) = false) :
    ∃ p, (runsOf s)[j]? = some p ∧ p.1.toNat = n ∧ Idx s (j + 1) (n + 1) := by
  obtain ⟨i, p, hp, ha, hb⟩ := has_run hn h1
  have hpn : p.1.toNat = n := by
    rcases Nat.lt_or_ge p.1.toNat n with hlt | hge
    · have := run_has hp (n := n - 1) (by omega) (by omega)
      rcases h0 with h0 | h0
      · omega
      · rw [this] at h0; cases h0
    · omega
  have hij : j ≤ i := by
    rcases Nat.lt_or_ge i j with hlt | hge
    · have := h.2.1 i p hlt hp; omega
    · exact hge
  have hji : i = j := by
    rcases Nat.lt_or_ge j i with hlt | hge
    · have hjl : j < (runsOf s).length := by have := (List.getElem?_eq_some_iff.1 hp).1; omega
      obtain ⟨q, hq⟩ : ∃ q, (runsOf s)[j]? = some q := ⟨_, List.getElem?_eq_getElem hjl⟩
      have h2 := runs_order hq hp hlt
      have h3 := h.2.2 j q (Nat.le_refl _) hq
      have h4 := run_le hq
      omega
    · omega
  subst hji
  refine ⟨p, hp, hpn, (List.getElem?_eq_some_iff.1 hp).1, fun k q hk hq => ?_, fun k q hk hq => ?_⟩
  · rcases Nat.lt_succ_iff_lt_or_eq.1 hk with hlt | rfl
    · have := h.2.1 k q hlt hq; omega
    · rw [hp] at hq; cases hq; omega
  · have := runs_order hp hq (by omega)
    have := run_le hp
    omega

theorem Idx.no {s : S4} {j n : Nat} (h : Idx s j n) (h1 : s.has n = false ∨ (0 < n ∧ s.has (n - 1) = true)) : Idx s j (n + 1) := by
  refine ⟨h.1, fun i p hi hp => by have := h.2.1 i p hi hp; omega, fun i p hi hp => ?_⟩
  have h2 := h.2.2 i p hi hp
  rcases Nat.lt_or_ge n p.1.toNat with hlt | hge
  · exact hlt
  · exfalso
    have e : p.1.toNat = n := by omega
    rcases h1 with h1 | ⟨h0, h1⟩
    · rw [run_has hp (n := n) (by omega) (by have := run_le hp; omega)] at h1; cases h1
    · have := gap_before hp (by omega)
      rw [e, h1] at this; cases this

theorem Idx.all {s : S4} {j : Nat} (h : Idx s j 256) : (runsOf s).take j = runsOf s := by
  rcases Nat.lt_or_ge j (runsOf s).length with hlt | hge
  · obtain ⟨q, hq⟩ : ∃ q, (runsOf s)[j]? = some q := ⟨_, List.getElem?_eq_getElem hlt⟩
    have h1 := h.2.2 j q (Nat.le_refl _) hq
    have := q.1.toNat_lt
    omega
  · exact List.take_of_length_le hge

theorem byte_of {p : UInt8 × UInt8} {n : Nat} (h : p.1.toNat = n) : byteV p.1 = .int .u8 n := by unfold byteV; rw [h]

theorem runs_take {s : S4} {j : Nat} {p : UInt8 × UInt8} (hp : (runsOf s)[j]? = some p) : runsV ((runsOf s).take (j + 1)) = runsV ((runsOf s).take j) ++ [.int .u8 p.1.toNat, .int .u8 p.2.toNat] := by
  have hlt := (List.getElem?_eq_some_iff.1 hp).1
  have e : (runsOf s)[j] = p := (List.getElem?_eq_some_iff.1 hp).2
  rw [List.take_succ_eq_append_getElem hlt, runsV_append, e]
  rfl

set_option maxRecDepth 100000 in
set_option maxHeartbeats 4000000 in
theorem rruns_any (s : S4) (hs : s.ok) (w : World) :
    Calls Tryd.prog 39 #[s.v] w fun e w' => ∃ v, (e = .returned v ∧ w'.ownsRow (w.heap.size + 1) 68 2 v (runsOf s).length (runsV (runsOf s))) ∧ Below w.heap.size w w' := by
  obtain ⟨i0, hi, hz0, hz1, hz2⟩ := info_parts info_run
  go_enter Tryd.func39, Tryd.ntmps39
  go_wp2_with fail
  have hbs := Box4.new w s
  have hB : Below w.heap.size w (w.alloc (.cells #[.int .u64 s.a, .int .u64 s.b, .int .u64 s.c, .int .u64 s.d] 31)) := (Below.refl _ w).alloc (Nat.le_refl _) _
  go_loopw [3, 4] (fun v i wr => ∃ k j : Nat, k ≤ 256 ∧ i = .int .i64 k ∧ Idx s j k ∧ wr.ownsRow (w.heap.size + 1) 68 2 v j (runsV ((runsOf s).take j)) ∧ Box4 wr w.heap.size s ∧ Below w.heap.size w wr)
    (fun _ i _ => 256 - (intOf i).toNat)
  case atStart => exact ⟨0, 0, by omega, rfl, Idx.zero s, World.ownsRow_nil _ _ _ _, hbs, hB⟩
  case round =>
    clear hbs hB
    obtain ⟨k, j, hk, rfl, hidx, hrow, hS, hB⟩ := hrel
    by_cases hlt : k < 256
    · obtain ⟨x0, x1, x2, x3⟩ := hS.cells
      have HI := Lib.hid hidx
      clear hidx
      go_wp2_with fail
      refine (rhas_any s hs k hlt _).mono ?_
      rintro e w1 ⟨rfl, hb⟩
      have hrow1 := ownBelow hrow hb
      have hS1 := hS.below hb hS.lt
      have hB1 := bstep hB hb
      clear hrow hS hB hb x0 x1 x2 x3
      obtain ⟨x0, x1, x2, x3⟩ := hS1.cells
      cases h1 : s.has k with
      | false =>
        go_wp2_with fail
        go_roundw
        case rel => exact ⟨k + 1, j, by omega, by go_num, HI.out.no (.inl h1), hrow1, hS1, hB1⟩
        case measure => first | (simp [intOf]; done) | (simp [intOf]; omega)
      | true =>
        have hcase : (k = 0) ∨ (0 < k ∧ s.has (k - 1) = true) ∨ (0 < k ∧ s.has (k - 1) = false) := by
          rcases Nat.eq_zero_or_pos k with h | h
          · exact .inl h
          · cases h2 : s.has (k - 1)
            · exact .inr (.inr ⟨h, rfl⟩)
            · exact .inr (.inl ⟨h, rfl⟩)
        rcases hcase with h0 | ⟨h0, h2⟩ | ⟨h0, h2⟩
        · subst h0
          have hd : decide ((0 : Int) < ((0 : Nat) : Int)) = false := by decide
          obtain ⟨p, hp, hpk, hnx⟩ := HI.out.yes hlt h1 (.inl rfl)
          have hkp : 0 ≤ p.2.toNat := Nat.zero_le _
          have hp := Lib.hid hp
          have hnx := Lib.hid hnx
          have h256 := p.2.toNat_lt
          have hj256 : j ≤ 256 := by have := HI.out.1; have := rs_len (lstB s); have := lst_le s; have := lstB_len s; unfold runsOf at *; omega
          go_wp2_with fail
          go_loopw [5] (fun t wr => ∃ q : Nat, 0 ≤ q ∧ q ≤ p.2.toNat ∧ t = .int .i64 q ∧ wr.ownsRow (w.heap.size + 1) 68 2 u3 j (runsV ((runsOf s).take j)) ∧ Box4 wr w.heap.size s ∧ Below w.heap.size w wr)
            (fun t _ => 255 - (intOf t).toNat)
          case atStart => exact ⟨0, Nat.le_refl _, hkp, rfl, hrow1, hS1, hB1⟩
          case round =>
            clear hrow1 hS1 hB1 x0 x1 x2 x3
            obtain ⟨q, hkq, hqp, rfl, hrow2, hS2, hB2⟩ := hrel
            obtain ⟨y0, y1, y2, y3⟩ := hS2.cells
            rcases Nat.lt_or_ge q p.2.toNat with hq | hq
            · have hq1 : s.has (q + 1) = true := run_has hp.out (by omega) (by omega)
              have hd5 : decide ((q : Int) < 255) = true := by simp; omega
              go_wp2_with fail
              rw [show (q : Int) + 1 = ((q + 1 : Nat) : Int) by omega]
              refine (rhas_any s hs (q + 1) (by omega) _).mono ?_
              rintro e w3 ⟨rfl, hb3⟩
              rw [hq1]
              go_wp2_with fail
              go_roundw
              case rel => exact ⟨q + 1, by omega, by omega, by go_num, ownBelow hrow2 hb3, hS2.below hb3 hS2.lt, bstep hB2 hb3⟩
              case measure => first | (simp [intOf]; done) | (simp [intOf]; omega)
            · have hqe : p.2.toNat = q := by omega
              rcases Nat.lt_or_ge q 255 with h255 | h255
              · have hq1 : s.has (q + 1) = false := by have := gap_after hp.out (by omega); rw [hqe] at this; exact this
                have hd5 : decide ((q : Int) < 255) = true := by simp; omega
                go_wp2_with fail
                rw [show (q : Int) + 1 = ((q + 1 : Nat) : Int) by omega]
                refine (rhas_any s hs (q + 1) (by omega) _).mono ?_
                rintro e w3 ⟨rfl, hb3⟩
                rw [hq1]
                have hrow3 := ownBelow hrow2 hb3
                have hS3 := hS2.below hb3 hS2.lt
                have hB3 := bstep hB2 hb3
                have hlt3 := hS3.lt
                clear hrow2 hS2 hB2 y0 y1 y2 y3
                go_wp2_with (at_builtin; refine wpList_append_own _ rfl _ _ 66 rfl (w.heap.size + 1) 68 i0 (.agg #[.int .u8 0, .int .u8 0]) 2 2 Tryd.underlying66 hi hz0 hz1 hz2 rfl (by decide) _ _ _ rfl (hrow3.alloc _) ⟨World.heap _ |>.size, 0, none⟩ 1 1 [.int .u8 0, .int .u8 q] rfl rfl (cell_two_new _ _ _ _) (fun x hx => by simp at hx; rcases hx with rfl | rfl <;> rfl) (by unfold maxLen; omega) (by omega) (by simp; omega) ?_; intro v' w4 hown' hgrow _)
                go_roundw
                case rel =>
                  have hS4 := (hS3.alloc _).kept hgrow (ownNot hrow3 (by omega))
                  have hB4 := (hB3.alloc (by omega) _).grown hgrow (by simp; omega) (fun j hj => Nat.le_of_succ_le (ownAt hrow3 j hj))
                  refine ⟨0 + 1, j + 1, by omega, by go_num, hnx.out, ?_, hS4, hB4⟩
                  rw [runs_take hp.out, hpk, hqe]
                  exact hown'
                case measure => first | (simp [intOf]; done) | (simp [intOf]; omega)
              · have hd5 : decide ((q : Int) < 255) = false := by simp; omega
                have hrow3 := hrow2
                have hS3 := hS2
                have hB3 := hB2
                have hlt3 := hS3.lt
                skip
                clear hrow2 hS2 hB2 y0 y1 y2 y3
                go_wp2_with (at_builtin; refine wpList_append_own _ rfl _ _ 66 rfl (w.heap.size + 1) 68 i0 (.agg #[.int .u8 0, .int .u8 0]) 2 2 Tryd.underlying66 hi hz0 hz1 hz2 rfl (by decide) _ _ _ rfl (hrow3.alloc _) ⟨World.heap _ |>.size, 0, none⟩ 1 1 [.int .u8 0, .int .u8 q] rfl rfl (cell_two_new _ _ _ _) (fun x hx => by simp at hx; rcases hx with rfl | rfl <;> rfl) (by unfold maxLen; omega) (by omega) (by simp; omega) ?_; intro v' w4 hown' hgrow _)
                go_roundw
                case rel =>
                  have hS4 := (hS3.alloc _).kept hgrow (ownNot hrow3 (by omega))
                  have hB4 := (hB3.alloc (by omega) _).grown hgrow (by simp; omega) (fun j hj => Nat.le_of_succ_le (ownAt hrow3 j hj))
                  refine ⟨0 + 1, j + 1, by omega, by go_num, hnx.out, ?_, hS4, hB4⟩
                  rw [runs_take hp.out, hpk, hqe]
                  exact hown'
                case measure => first | (simp [intOf]; done) | (simp [intOf]; omega)
        · have hd : decide ((0 : Int) < (k : Int)) = true := by simp; omega
          go_wp2_with fail
          rw [show (k : Int) - 1 = ((k - 1 : Nat) : Int) by omega]
          refine (rhas_any s hs (k - 1) (by omega) _).mono ?_
          rintro e w2 ⟨rfl, hb2⟩
          rw [h2]
          go_wp2_with fail
          go_roundw
          case rel => exact ⟨k + 1, j, by omega, by go_num, HI.out.no (.inr ⟨h0, h2⟩), ownBelow hrow1 hb2, hS1.below hb2 hS1.lt, bstep hB1 hb2⟩
          case measure => first | (simp [intOf]; done) | (simp [intOf]; omega)
        · have hd : decide ((0 : Int) < (k : Int)) = true := by simp; omega
          obtain ⟨p, hp, hpk, hnx⟩ := HI.out.yes hlt h1 (.inr h2)
          have hkp : k ≤ p.2.toNat := by have := run_le hp; omega
          have hp := Lib.hid hp
          have hnx := Lib.hid hnx
          have h256 := p.2.toNat_lt
          have hj256 : j ≤ 256 := by have := HI.out.1; have := rs_len (lstB s); have := lst_le s; have := lstB_len s; unfold runsOf at *; omega
          go_wp2_with fail
          rw [show (k : Int) - 1 = ((k - 1 : Nat) : Int) by omega]
          refine (rhas_any s hs (k - 1) (by omega) _).mono ?_
          rintro e w2 ⟨rfl, hb2⟩
          rw [h2]
          have hrowb := ownBelow hrow1 hb2
          have hSb := hS1.below hb2 hS1.lt
          have hBb := bstep hB1 hb2
          clear hrow1 hS1 hB1 x0 x1 x2 x3 hb2
          go_wp2_with fail
          go_loopw [5] (fun t wr => ∃ q : Nat, k ≤ q ∧ q ≤ p.2.toNat ∧ t = .int .i64 q ∧ wr.ownsRow (w.heap.size + 1) 68 2 u3 j (runsV ((runsOf s).take j)) ∧ Box4 wr w.heap.size s ∧ Below w.heap.size w wr)
            (fun t _ => 255 - (intOf t).toNat)
          case atStart => exact ⟨k, Nat.le_refl _, hkp, rfl, hrowb, hSb, hBb⟩
          case round =>
            clear hrowb hSb hBb
            obtain ⟨q, hkq, hqp, rfl, hrow2, hS2, hB2⟩ := hrel
            obtain ⟨y0, y1, y2, y3⟩ := hS2.cells
            rcases Nat.lt_or_ge q p.2.toNat with hq | hq
            · have hq1 : s.has (q + 1) = true := run_has hp.out (by omega) (by omega)
              have hd5 : decide ((q : Int) < 255) = true := by simp; omega
              go_wp2_with fail
              rw [show (q : Int) + 1 = ((q + 1 : Nat) : Int) by omega]
              refine (rhas_any s hs (q + 1) (by omega) _).mono ?_
              rintro e w3 ⟨rfl, hb3⟩
              rw [hq1]
              go_wp2_with fail
              go_roundw
              case rel => exact ⟨q + 1, by omega, by omega, by go_num, ownBelow hrow2 hb3, hS2.below hb3 hS2.lt, bstep hB2 hb3⟩
              case measure => first | (simp [intOf]; done) | (simp [intOf]; omega)
            · have hqe : p.2.toNat = q := by omega
              rcases Nat.lt_or_ge q 255 with h255 | h255
              · have hq1 : s.has (q + 1) = false := by have := gap_after hp.out (by omega); rw [hqe] at this; exact this
                have hd5 : decide ((q : Int) < 255) = true := by simp; omega
                go_wp2_with fail
                rw [show (q : Int) + 1 = ((q + 1 : Nat) : Int) by omega]
                refine (rhas_any s hs (q + 1) (by omega) _).mono ?_
                rintro e w3 ⟨rfl, hb3⟩
                rw [hq1]
                have hrow3 := ownBelow hrow2 hb3
                have hS3 := hS2.below hb3 hS2.lt
                have hB3 := bstep hB2 hb3
                have hlt3 := hS3.lt
                clear hrow2 hS2 hB2 y0 y1 y2 y3
                go_wp2_with (at_builtin; refine wpList_append_own _ rfl _ _ 66 rfl (w.heap.size + 1) 68 i0 (.agg #[.int .u8 0, .int .u8 0]) 2 2 Tryd.underlying66 hi hz0 hz1 hz2 rfl (by decide) _ _ _ rfl (hrow3.alloc _) ⟨World.heap _ |>.size, 0, none⟩ 1 1 [.int .u8 k, .int .u8 q] rfl rfl (cell_two_new _ _ _ _) (fun x hx => by simp at hx; rcases hx with rfl | rfl <;> rfl) (by unfold maxLen; omega) (by omega) (by simp; omega) ?_; intro v' w4 hown' hgrow _)
                go_roundw
                case rel =>
                  have hS4 := (hS3.alloc _).kept hgrow (ownNot hrow3 (by omega))
                  have hB4 := (hB3.alloc (by omega) _).grown hgrow (by simp; omega) (fun j hj => Nat.le_of_succ_le (ownAt hrow3 j hj))
                  refine ⟨k + 1, j + 1, by omega, by go_num, hnx.out, ?_, hS4, hB4⟩
                  rw [runs_take hp.out, hpk, hqe]
                  exact hown'
                case measure => first | (simp [intOf]; done) | (simp [intOf]; omega)
              · have hd5 : decide ((q : Int) < 255) = false := by simp; omega
                have hrow3 := hrow2
                have hS3 := hS2
                have hB3 := hB2
                have hlt3 := hS3.lt
                skip
                clear hrow2 hS2 hB2 y0 y1 y2 y3
                go_wp2_with (at_builtin; refine wpList_append_own _ rfl _ _ 66 rfl (w.heap.size + 1) 68 i0 (.agg #[.int .u8 0, .int .u8 0]) 2 2 Tryd.underlying66 hi hz0 hz1 hz2 rfl (by decide) _ _ _ rfl (hrow3.alloc _) ⟨World.heap _ |>.size, 0, none⟩ 1 1 [.int .u8 k, .int .u8 q] rfl rfl (cell_two_new _ _ _ _) (fun x hx => by simp at hx; rcases hx with rfl | rfl <;> rfl) (by unfold maxLen; omega) (by omega) (by simp; omega) ?_; intro v' w4 hown' hgrow _)
                go_roundw
                case rel =>
                  have hS4 := (hS3.alloc _).kept hgrow (ownNot hrow3 (by omega))
                  have hB4 := (hB3.alloc (by omega) _).grown hgrow (by simp; omega) (fun j hj => Nat.le_of_succ_le (ownAt hrow3 j hj))
                  refine ⟨k + 1, j + 1, by omega, by go_num, hnx.out, ?_, hS4, hB4⟩
                  rw [runs_take hp.out, hpk, hqe]
                  exact hown'
                case measure => first | (simp [intOf]; done) | (simp [intOf]; omega)
    · obtain rfl : k = 256 := by omega
      have hall := hidx.all
      have hle : j = (runsOf s).length := by
        have := congrArg List.length hall
        rw [List.length_take] at this
        have := hidx.1
        omega
      rw [hall, hle] at hrow
      go_wp2
      go_ret
      exact ⟨_, ⟨rfl, hrow⟩, hB⟩
end Go.Proofs.YtjaklcmadkpmdaaDoor
end
section
namespace Go.Proofs.YtjaklcmadkpmdaaDoor
open Go Go.RowKit Go.Shelf
set_option linter.unusedSimpArgs false
set_option linter.unusedVariables false
attribute [local go_sem] Oper.semAt_some

theorem uncl_of {t : ByteArray} (h0 : 0 < t.size) (hq : t[0] = 91) (o : Bool) (ho : (rd0 true t 0).up.next 94 = o) (n : Nat) {S : S4} {f : Rd} (hl : (if o = true then (rd0 true t 0).up.up else (rd0 true t 0).up).items n S4.nil = (S, f)) :
    uncl t 0 n = if (f.expect 93).e ≠ 0 then (S4.nil, (f.expect 93).at', (f.expect 93).e) else ((if o = true then S.not else S), (f.expect 93).at', 0) := by
  have hx : (rd0 true t 0).expect 91 = (rd0 true t 0).up := by
    have hn : (rd0 true t 0).next 91 = true := by
      unfold Rd.next
      rw [show (rd0 true t 0).cur = some t[0] from cur_at (r := rd0 true t 0) h0, hq]
      exact beq_self_eq_true _
    unfold Rd.expect
    rw [if_neg (by exact fun k => k rfl), if_pos hn]
    rfl
  unfold uncl
  dsimp only
  rw [hx, ho]
  have he : decide ((rd0 true t 0).up.e = 0) = true := rfl
  rw [he, Bool.true_and, hl]

theorem runclass_res (tm : Array Value) (W : World) (g : Nat) (S : S4) (x y : Value) (h2 : tm.getD 2 undef = .pointer (some ⟨g, 0, none⟩)) (h3 : tm.getD 3 undef = x) (h4 : tm.getD 4 undef = y) (hv : Box4 W g S) :
    (results Tryd.f15 tm).run Tryd.prog W = .ok (.tuple #[S.v, x, y]) W := by
  obtain ⟨d0, d1, d2, d3⟩ := hv.cells
  simp only [Array.getD_eq_getD_getElem?] at h2 h3 h4
  simp [results, Tryd.results15, go_sem, d0, d1, d2, d3, h2, h3, h4]

set_option maxRecDepth 100000 in
set_option maxHeartbeats 4000000 in
theorem runcl_none {w : World} (t : ByteArray) (hs : t.size = 0) (n : Nat) :
    Calls Tryd.prog 15 #[.string t] w fun e w' => e = .returned (unclV (uncl t 0 n)) ∧ Below w.heap.size w w' := by
  obtain rfl : t = ⟨#[]⟩ := by
    cases t with
    | mk d => congr 1; exact Array.eq_empty_of_size_eq_zero hs
  have hU : uncl ⟨#[]⟩ 0 n = (S4.nil, 0, 8) := by
    cases n with
    | zero => rfl
    | succ n => rfl
  rw [hU]
  go_enter Tryd.func15, Tryd.ntmps15
  go_wp2_with fail
  refine bodyPost_ret (v := unclV (S4.nil, 0, 8)) (runclass_res _ _ w.heap.size S4.nil _ _ rfl rfl rfl (Box4.new w S4.nil)) rfl ⟨rfl, (Below.refl _ w).alloc (Nat.le_refl _) _⟩

set_option maxRecDepth 100000 in
set_option maxHeartbeats 4000000 in
theorem runcl_form {w : World} (t : ByteArray) (h : 0 < t.size) (hq : t[0].toNat ≠ 91) (n : Nat) :
    Calls Tryd.prog 15 #[.string t] w fun e w' => e = .returned (unclV (uncl t 0 n)) ∧ Below w.heap.size w w' := by
  have hU : uncl t 0 n = (S4.nil, 0, 4) := by
    have hn : (rd0 true t 0).next 91 = false := by
      unfold Rd.next
      rw [show (rd0 true t 0).cur = some t[0] from cur_at (r := rd0 true t 0) h, beq_eq_false_iff_ne]
      intro k
      exact hq (by rw [Option.some.inj k]; rfl)
    have hx : (rd0 true t 0).expect 91 = (rd0 true t 0).bad := by
      unfold Rd.expect
      rw [if_neg (by exact fun k => k rfl), if_neg (by rw [hn]; simp)]
    have hbe := (rd0 true t 0).bad_e
    have hi : (rd0 true t 0).bad.items n S4.nil = (S4.nil, (rd0 true t 0).bad) := by
      cases n with
      | zero => rfl
      | succ n => rw [Rd.items, if_neg (by rintro ⟨k, _⟩; exact hbe k)]
    have hf : (rd0 true t 0).bad.expect 93 = (rd0 true t 0).bad := by rw [Rd.expect, if_pos hbe]
    unfold uncl
    dsimp only
    rw [hx, decide_eq_false hbe, Bool.false_and]
    simp only [Bool.false_eq_true, if_false]
    rw [hi]
    dsimp only
    rw [hf, if_pos hbe]
    unfold Rd.bad
    rw [if_neg (by show ¬ t.size ≤ 0; omega)]
    rfl
  rw [hU]
  have he : t.toList.isEmpty = false := by
    rw [List.isEmpty_eq_false_iff]
    intro k
    rw [toList_nil_iff_emptyBytes] at k
    subst k
    exact absurd h (by decide)
  have hq1 : ((t[0].toNat : Int) != 91) = true := by rw [bne_iff_ne]; omega
  clear hU
  go_enter Tryd.func15, Tryd.ntmps15
  go_wp2_with fail
  refine bodyPost_ret (v := unclV (S4.nil, 0, 4)) (runclass_res _ _ w.heap.size S4.nil _ _ rfl rfl rfl (Box4.new w S4.nil)) rfl ⟨rfl, (Below.refl _ w).alloc (Nat.le_refl _) _⟩

/-- Where nothing more is an item, or an item goes wrong: what stands behind. -/
theorem finC_expect {s f : Rd} (h0 : s.e = 0) (hf : FinR true s f) (h93 : s.next 93 = false) : (f.expect 93) = (s.sign true).2 ∧ ((s.sign true).2.e ≠ 0) := by
  rcases hf with ⟨h1, rfl⟩ | ⟨h1, h2, rfl, h4⟩
  · have hb : f.begins true = false := by
      cases hb : f.begins true with
      | false => rfl
      | true => exact absurd ⟨h0, hb⟩ h1
    have hs : f.sign true = (0, f.bad) := by
      unfold Rd.sign
      cases hc : f.cur with
      | none => rfl
      | some c =>
        have hbc : beginsB true c = false := by unfold Rd.begins at hb; rw [hc] at hb; exact hb
        dsimp only
        rw [if_pos hbc]
    rw [hs]
    refine ⟨?_, f.bad_e⟩
    unfold Rd.expect
    rw [if_neg (by simpa using h0), if_neg (by rw [h93]; simp)]
  · exact ⟨by rw [Rd.expect, if_pos h4], h4⟩

theorem next_yes' {r : Rd} {c : UInt8} (h : r.next c = true) (hlt : r.at' < r.text.size) : r.text[r.at'] = c := by
  unfold Rd.next at h
  rw [beq_iff_eq] at h
  exact (cur_some h).2
theorem next_no' {r : Rd} {c : UInt8} (h : r.next c = false) (hlt : r.at' < r.text.size) : r.text[r.at'] ≠ c := by
  unfold Rd.next at h
  rw [beq_eq_false_iff_ne] at h
  intro k
  apply h
  unfold Rd.cur
  rw [Array.getElem?_eq_getElem hlt]
  exact congrArg some k

set_option maxRecDepth 100000 in
set_option maxHeartbeats 8000000 in
theorem runcl_loop {W0 w : World} (hI : Inv W0) (hb0 : Below W0.heap.size W0 w) (t : ByteArray) (hs : t.size ≤ 20000) (h : 1 < t.size) (hq : t[0].toNat = 91) (n : Nat) (hn : t.size < n) (o : Bool) (ho : ((t[1].toNat : Int) == 94) = o) :
    Calls Tryd.prog 15 #[.string t] w fun e w' => e = .returned (unclV (uncl t 0 n)) ∧ Below w.heap.size w w' := by
  have h0 : 0 < t.size := by omega
  have hq0 : t[0] = 91 := UInt8.toNat_inj.1 hq
  obtain ⟨r1, hr1⟩ : ∃ r1, r1 = (if o = true then (rd0 true t 0).up.up else (rd0 true t 0).up) := ⟨_, rfl⟩
  have hno : (rd0 true t 0).up.next 94 = o := by
    rw [← ho]
    unfold Rd.next
    rw [show (rd0 true t 0).up.cur = some t[1] from cur_at (r := (rd0 true t 0).up) h, Bool.eq_iff_iff, beq_iff_eq, beq_iff_eq, Option.some.injEq]
    exact ⟨fun k => by rw [k]; rfl, fun k => u8_eq (by show t[1].toNat = 94; omega)⟩
  have HU := Lib.hid (show ∀ S f, r1.items n S4.nil = (S, f) → uncl t 0 n = if (f.expect 93).e ≠ 0 then (S4.nil, (f.expect 93).at', (f.expect 93).e) else ((if o = true then S.not else S), (f.expect 93).at', 0) from fun S f hl => uncl_of h0 hq0 o hno n (by rw [← hr1]; exact hl))
  have hR1 : r1.e = 0 ∧ r1.text = t ∧ r1.at' ≤ t.size := by
    rw [hr1]
    cases o
    · exact ⟨rfl, rfl, h0⟩
    · exact ⟨rfl, rfl, h⟩
  have he : t.toList.isEmpty = false := by
    rw [List.isEmpty_eq_false_iff]
    intro k
    rw [toList_nil_iff_emptyBytes] at k
    subst k
    exact absurd h (by decide)
  have hq1 : ((t[0].toNat : Int) != 91) = false := by rw [bne_eq_false_iff_eq]; omega
  have hd : decide ((1 : Int) < (t.size : Int)) = true := by simp; omega
  have HI := Lib.hid hI
  have HR1 := Lib.hid hR1
  have hat1 : (r1.at' : Int) = if o = true then 2 else 1 := by rw [hr1]; cases o <;> rfl
  have HAT := Lib.hid hat1
  clear hI hq hr1 hno hq0 hR1 hat1
  cases o
  all_goals
    go_enter Tryd.func15, Tryd.ntmps15
    go_wp2_with fail
    clear he hq1 hd
    go_loopw [6] (fun i wr => ∃ (s : Rd) (S : S4), i = .int .i64 s.at' ∧ (s.e = 0 ∧ s.text = t ∧ s.at' ≤ t.size ∧ S.ok ∧ GoneC r1 S s) ∧ Box4 wr w.heap.size S4.nil ∧ Box4 wr (w.heap.size + 1) S ∧ Below w.heap.size w wr) (fun i _ => t.size - (intOf i).toNat)
    case atStart =>
      have hb2 := Box4.new (w.alloc (.cells #[.int .u64 0, .int .u64 0, .int .u64 0, .int .u64 0] 31)) S4.nil
      rw [World.size_alloc] at hb2
      exact ⟨r1, S4.nil, by rw [HAT.out]; rfl, ⟨HR1.out.1, HR1.out.2.1, HR1.out.2.2, S4.ok_nil, GoneC.start r1⟩, Box4.alloc (Box4.new w S4.nil) _, hb2, ((Below.refl _ w).alloc (Nat.le_refl _) _).alloc (by simp) _⟩
    case round =>
      obtain ⟨s, S, rfl, hs1, hR, hS, hB⟩ := hrel
      have HS := Lib.hid hs1
      have hle := hs1.2.2.1
      clear hs1
      obtain ⟨r0c, r1c, r2c, r3c⟩ := hR.cells
      obtain ⟨f0, f1, f2, f3⟩ := hR.free
      have hb1 : Below W0.heap.size W0 wr := hb0.trans (hB.mono hb0.size)
      by_cases hlt : s.at' < t.size
      · have d1 : decide ((s.at' : Int) < (t.size : Int)) = true := by simp; omega
        have d2 : (s.at' : Int) < (t.size : Int) := by omega
        have d3 : decide (s.at' < t.size) = true := by simp; omega
        have g1 : decide ((t.size : Int) ≤ (s.at' : Int)) = false := by simp; omega
        have g2 : ¬ ((t.size : Int) ≤ (s.at' : Int)) := by omega
        have g3 : decide (t.size ≤ s.at') = false := by simp; omega
        have hc : s.cur = some t[s.at'] := by
          have hx := HS.out.2.1
          subst hx
          exact cur_at hlt
        by_cases h93 : t[s.at'].toNat = 93
        · have q1 : ((t[s.at'].toNat : Int) != 93) = false := by rw [bne_eq_false_iff_eq]; omega
          have hb93 : t[s.at'] = 93 := u8_eq h93
          have hnx : s.next 93 = true := by unfold Rd.next; rw [hc, hb93]; rfl
          have hbg : s.begins true = false := by unfold Rd.begins; rw [hc, hb93]; rfl
          have hU := HU.out S s (HS.out.2.2.2.2.fin (.inl ⟨by rw [hbg]; simp, rfl⟩) n (by omega))
          have h2 : s.expect 93 = s.up := by
            unfold Rd.expect
            rw [if_neg (by simpa using HS.out.1), if_pos hnx]
            rfl
          rw [h2, if_neg (by show ¬ s.e ≠ 0; simpa using HS.out.1)] at hU
          simp only [Bool.false_eq_true, if_false, if_true] at hU
          have HU2 := Lib.hid hU
          have hok := HS.out.2.2.2.1
          obtain ⟨c0, c1, c2, c3⟩ := hS.cells
          clear hU h2 hnx hbg hb93 h93 hc
          first
            | (have HO := Lib.hid (show uncl t 0 n = (S, s.up.at', 0) from HU2.out)
               go_wp2
               refine bodyPost_ret (v := unclV (S, s.at' + 1, 0)) (runclass_res _ _ w.heap.size S _ _ rfl rfl rfl (hR.store S)) rfl ⟨by rw [HO.out]; rfl, ?_⟩
               exact (((hB.setCell (Nat.le_refl _) _).setCell (Nat.le_refl _) _).setCell (Nat.le_refl _) _).setCell (Nat.le_refl _) _)
            | (have HO := Lib.hid (show uncl t 0 n = (S.not, s.up.at', 0) from HU2.out)
               obtain ⟨T, hT⟩ : ∃ T, T = S.not := ⟨_, rfl⟩
               have HNT := Lib.hid (show ∀ w : World, Calls Tryd.prog 38 #[S.v] w fun e w' => e = .returned T.v ∧ Below w.heap.size w w' from fun w => by rw [hT]; exact rnot_any S hok w)
               have HO2 := Lib.hid (show uncl t 0 n = (T, s.up.at', 0) from by rw [hT]; exact HO.out)
               clear hT HO HU2
               go_wp2_with (go_at_call 38; refine (HNT.out _).mono ?_; rintro e w1 ⟨rfl, hb2⟩; have hR1 := hR.below hb2 hR.lt; have hS1 := hS.below hb2 hS.lt; have hB1 := hB.trans (hb2.mono hB.size); clear r0c r1c r2c r3c f0 f1 f2 f3 c0 c1 c2 c3; obtain ⟨r0c, r1c, r2c, r3c⟩ := hR1.cells; obtain ⟨f0, f1, f2, f3⟩ := hR1.free; obtain ⟨c0, c1, c2, c3⟩ := hS1.cells; obtain ⟨k0, k1, k2, k3⟩ := hS1.free)
               have hS2 := hS1.store T
               have hR2 : Box4 ((((w1.setCell ⟨w.heap.size + 1, 0, none⟩ (.int .u64 T.a)).setCell ⟨w.heap.size + 1, 1, none⟩ (.int .u64 T.b)).setCell ⟨w.heap.size + 1, 2, none⟩ (.int .u64 T.c)).setCell ⟨w.heap.size + 1, 3, none⟩ (.int .u64 T.d)) w.heap.size S4.nil := (((hR1.other (by simp) _).other (by simp) _).other (by simp) _).other (by simp) _
               have hB2 : Below w.heap.size w ((((w1.setCell ⟨w.heap.size + 1, 0, none⟩ (.int .u64 T.a)).setCell ⟨w.heap.size + 1, 1, none⟩ (.int .u64 T.b)).setCell ⟨w.heap.size + 1, 2, none⟩ (.int .u64 T.c)).setCell ⟨w.heap.size + 1, 3, none⟩ (.int .u64 T.d)) := (((hB1.setCell (by simp) _).setCell (by simp) _).setCell (by simp) _).setCell (by simp) _
               refine bodyPost_ret (v := unclV (T, s.at' + 1, 0)) (runclass_res _ _ w.heap.size T _ _ rfl rfl rfl (hR2.store T)) rfl ⟨by rw [HO2.out]; rfl, ?_⟩
               exact (((hB2.setCell (Nat.le_refl _) _).setCell (Nat.le_refl _) _).setCell (Nat.le_refl _) _).setCell (Nat.le_refl _) _)
        · have q1 : ((t[s.at'].toNat : Int) != 93) = true := by rw [bne_iff_ne]; omega
          have hnx : s.next 93 = false := by
            unfold Rd.next
            rw [hc, beq_eq_false_iff_ne]
            intro k
            exact h93 (by rw [Option.some.inj k]; rfl)
          have hon := s.sign_on true (by rw [HS.out.2.1]; exact hle)
          have hlk := s.sign_like true
          have HR := Lib.hid (show Calls Tryd.prog 29 #[.string t, .int .i64 s.at', .string ⟨#[93, 45, 94, 92]⟩] wr fun e w' => e = .returned (sgV (s.sign true)) ∧ Below wr.heap.size wr w' from by
            have := rsign_any true HI.out hb1 s HS.out.1 (by rw [HS.out.2.1]; exact hle) (by rw [HS.out.2.1]; omega)
            rw [HS.out.2.1] at this
            exact this)
          obtain ⟨p, hp⟩ : ∃ p, p = s.sign true := ⟨_, rfl⟩
          have HFE := Lib.hid (show ∀ f, FinR true s f → f.expect 93 = p.2 ∧ p.2.e ≠ 0 from fun f hf => by rw [hp]; exact finC_expect HS.out.1 hf hnx)
          rw [← hp] at hon hlk HR
          obtain ⟨x, u⟩ := p
          dsimp only at hon hlk
          have hut : u.text = t := hlk.1.trans HS.out.2.1
          have hul : u.at' ≤ t.size := by have := hon.1; rw [HS.out.2.1] at this; exact this
          have HP := Lib.hid hp
          have HC := Lib.hid hc
          clear hp hc h93
          by_cases hu : u.e = 0
          · have hV : sgV (x, u) = .tuple #[.int .u8 x.toNat, .int .i64 u.at', .int .i64 0] := sgV_ok hu
            rw [hV] at HR
            have hadv := hon.2 hu
            clear hon hlk hV g1 g2 g3
            have u0 : ((u.e : Int) == 0) = true := by rw [beq_iff_eq]; omega
            have hbg : s.begins true = true := by
              cases hb : s.begins true with
              | true => rfl
              | false =>
                exfalso
                have h1 := (HFE.out s (.inl ⟨by rw [hb]; simp, rfl⟩)).2
                exact h1 hu
            have HBG := Lib.hid hbg
            have hus : u.at' < n := by omega
            clear hbg u0
            cases hn45 : u.next 45 with
            | false =>
              have HN45 := Lib.hid hn45
              by_cases hend : u.at' < t.size
              · have m1 : decide ((u.at' : Int) < (t.size : Int)) = true := by simp; omega
                have m3 : (u.at' : Int) < (t.size : Int) := by omega
                have m2 : ((t[u.at'].toNat : Int) == 45) = false := by
                  rw [beq_eq_false_iff_ne]
                  intro k
                  have hx := hut
                  subst hx
                  exact next_no' HN45.out hend (u8_eq (by show u.text[u.at'].toNat = 45; omega))
                clear hn45
                have hit : s.item = (u, x, x) := item_one HP.out.symm hu HN45.out
                have HGO := Lib.hid (HS.out.2.2.2.2.step HS.out.1 HBG.out hit hu hadv)
                have HUE := Lib.hid hu
                have HUT := Lib.hid hut
                have HUL := Lib.hid hul
                have xx : decide ((x.toNat : Int) < (x.toNat : Int)) = false := by simp
                clear hit hu hut
                obtain ⟨R, hRe⟩ : ∃ R, R = rg x x := ⟨_, rfl⟩
                have HRG := Lib.hid (show ∀ w : World, Calls Tryd.prog 37 #[.int .u8 x.toNat, .int .u8 x.toNat] w fun e w' => e = .returned R.v ∧ Below w.heap.size w w' from fun w => by rw [hRe]; exact rrange_any x.toNat x.toNat (UInt8.toNat_lt _) (UInt8.toNat_lt _) w)
                have hRok : R.ok := by rw [hRe]; exact ok_rg x x
                obtain ⟨T, hTe⟩ : ∃ T, T = S.or R := ⟨_, rfl⟩
                have HOR := Lib.hid (show ∀ w : World, Calls Tryd.prog 36 #[S.v, R.v] w fun e w' => e = .returned T.v ∧ Below w.heap.size w w' from fun w => by rw [hTe]; exact ror_any S R HS.out.2.2.2.1 hRok w)
                have HTok := Lib.hid (show T.ok by rw [hTe]; exact S4.ok_or HS.out.2.2.2.1 hRok)
                have HTe := Lib.hid (show T = S.or (rg x x) by rw [hTe, hRe])
                clear hRe hRok hTe
                go_wp2_with (go_at_call 29; refine HR.out.mono ?_; rintro e w1 ⟨rfl, hb2⟩; have hR1 := hR.below hb2 hR.lt; have hS1 := hS.below hb2 hS.lt; have hB1 := hB.trans (hb2.mono hB.size); clear r0c r1c r2c r3c f0 f1 f2 f3; obtain ⟨r0c, r1c, r2c, r3c⟩ := hR1.cells; obtain ⟨f0, f1, f2, f3⟩ := hR1.free; obtain ⟨c0, c1, c2, c3⟩ := hS1.cells)
                go_region_with (first
                  | (go_at_call 37; refine (HRG.out _).mono ?_; rintro e w5 ⟨rfl, hb5⟩; have hS5 := Box4.below (W := w1.drew) (by exact hS1) hb5 (by exact hS1.lt); have hR5 := Box4.below (W := w1.drew) (by exact hR1) hb5 (by exact hR1.lt); have hB5 := bstep hB1.drew hb5; obtain ⟨p0, p1, p2, p3⟩ := hS5.cells)
                  | (go_at_call 36; refine (HOR.out _).mono ?_; rintro e w6 ⟨rfl, hb6⟩; have hS6 := hS5.below hb6 hS5.lt; have hR6 := hR5.below hb6 hR5.lt; have hB6 := bstep hB5 hb6; obtain ⟨j0, j1, j2, j3⟩ := hS6.cells; obtain ⟨k0, k1, k2, k3⟩ := hS6.free))
                all_goals
                  go_wp2
                  go_roundw
                  case rel =>
                    refine ⟨u, T, rfl, ⟨HUE.out, HUT.out, HUL.out, HTok.out, by rw [HTe.out]; exact HGO.out⟩, ?_, hS6.store T, ?_⟩
                    · exact (((hR6.other (by simp) _).other (by simp) _).other (by simp) _).other (by simp) _
                    · exact (((hB6.setCell (by simp) _).setCell (by simp) _).setCell (by simp) _).setCell (by simp) _
                  case measure => simp [intOf]; omega
              · have m1 : decide ((u.at' : Int) < (t.size : Int)) = false := by simp; omega
                have m3 : ¬ (u.at' : Int) < (t.size : Int) := by omega
                clear hn45
                have hit : s.item = (u, x, x) := item_one HP.out.symm hu HN45.out
                have HGO := Lib.hid (HS.out.2.2.2.2.step HS.out.1 HBG.out hit hu hadv)
                have HUE := Lib.hid hu
                have HUT := Lib.hid hut
                have HUL := Lib.hid hul
                have xx : decide ((x.toNat : Int) < (x.toNat : Int)) = false := by simp
                clear hit hu hut
                obtain ⟨R, hRe⟩ : ∃ R, R = rg x x := ⟨_, rfl⟩
                have HRG := Lib.hid (show ∀ w : World, Calls Tryd.prog 37 #[.int .u8 x.toNat, .int .u8 x.toNat] w fun e w' => e = .returned R.v ∧ Below w.heap.size w w' from fun w => by rw [hRe]; exact rrange_any x.toNat x.toNat (UInt8.toNat_lt _) (UInt8.toNat_lt _) w)
                have hRok : R.ok := by rw [hRe]; exact ok_rg x x
                obtain ⟨T, hTe⟩ : ∃ T, T = S.or R := ⟨_, rfl⟩
                have HOR := Lib.hid (show ∀ w : World, Calls Tryd.prog 36 #[S.v, R.v] w fun e w' => e = .returned T.v ∧ Below w.heap.size w w' from fun w => by rw [hTe]; exact ror_any S R HS.out.2.2.2.1 hRok w)
                have HTok := Lib.hid (show T.ok by rw [hTe]; exact S4.ok_or HS.out.2.2.2.1 hRok)
                have HTe := Lib.hid (show T = S.or (rg x x) by rw [hTe, hRe])
                clear hRe hRok hTe
                go_wp2_with (go_at_call 29; refine HR.out.mono ?_; rintro e w1 ⟨rfl, hb2⟩; have hR1 := hR.below hb2 hR.lt; have hS1 := hS.below hb2 hS.lt; have hB1 := hB.trans (hb2.mono hB.size); clear r0c r1c r2c r3c f0 f1 f2 f3; obtain ⟨r0c, r1c, r2c, r3c⟩ := hR1.cells; obtain ⟨f0, f1, f2, f3⟩ := hR1.free; obtain ⟨c0, c1, c2, c3⟩ := hS1.cells)
                go_region_with (first
                  | (go_at_call 37; refine (HRG.out _).mono ?_; rintro e w5 ⟨rfl, hb5⟩; have hS5 := Box4.below (W := w1.drew) (by exact hS1) hb5 (by exact hS1.lt); have hR5 := Box4.below (W := w1.drew) (by exact hR1) hb5 (by exact hR1.lt); have hB5 := bstep hB1.drew hb5; obtain ⟨p0, p1, p2, p3⟩ := hS5.cells)
                  | (go_at_call 36; refine (HOR.out _).mono ?_; rintro e w6 ⟨rfl, hb6⟩; have hS6 := hS5.below hb6 hS5.lt; have hR6 := hR5.below hb6 hR5.lt; have hB6 := bstep hB5 hb6; obtain ⟨j0, j1, j2, j3⟩ := hS6.cells; obtain ⟨k0, k1, k2, k3⟩ := hS6.free))
                all_goals
                  go_wp2
                  go_roundw
                  case rel =>
                    refine ⟨u, T, rfl, ⟨HUE.out, HUT.out, HUL.out, HTok.out, by rw [HTe.out]; exact HGO.out⟩, ?_, hS6.store T, ?_⟩
                    · exact (((hR6.other (by simp) _).other (by simp) _).other (by simp) _).other (by simp) _
                    · exact (((hB6.setCell (by simp) _).setCell (by simp) _).setCell (by simp) _).setCell (by simp) _
                  case measure => simp [intOf]; omega
            | true =>
              have HN45 := Lib.hid hn45
              have hend : u.at' < t.size := by have := next_lt hn45; rw [hut] at this; exact this
              have m1 : decide ((u.at' : Int) < (t.size : Int)) = true := by simp; omega
              have m3 : (u.at' : Int) < (t.size : Int) := by omega
              have m2 : ((t[u.at'].toNat : Int) == 45) = true := by
                have hx := hut
                subst hx
                have := next_yes' HN45.out hend
                rw [this]; rfl
              clear hn45
              have HR2 := Lib.hid (show ∀ w', Below W0.heap.size W0 w' → Calls Tryd.prog 29 #[.string t, .int .i64 ((u.at' : Int) + 1), .string ⟨#[93, 45, 94, 92]⟩] w' fun e w'' => e = .returned (sgV (u.up.sign true)) ∧ Below w'.heap.size w' w'' from fun w' hb => by
                have := rsign_any true HI.out hb u.up hu (by show u.at' + 1 ≤ u.text.size; rw [hut]; omega) (by show u.text.size ≤ _; rw [hut]; omega)
                rw [show u.up.text = t from hut] at this
                exact this)
              have hvo := u.up.sign_on true (by show u.at' + 1 ≤ u.text.size; rw [hut]; omega)
              have hvk := u.up.sign_like true
              obtain ⟨p2, hp2⟩ : ∃ p2, p2 = u.up.sign true := ⟨_, rfl⟩
              rw [← hp2] at hvo hvk HR2
              obtain ⟨y, v⟩ := p2
              dsimp only at hvo hvk
              have hvt : v.text = t := hvk.1.trans hut
              have hvl : v.at' ≤ t.size := by have := hvo.1; rw [show u.up.text = t from hut] at this; exact this
              have hi2 := item_two HP.out.symm hu HN45.out hp2.symm
              clear hp2 hvk
              by_cases hve : v.e = 0
              · have hV2 : sgV (y, v) = .tuple #[.int .u8 y.toNat, .int .i64 v.at', .int .i64 0] := sgV_ok hve
                rw [hV2] at HR2
                have hadv2 := hvo.2 hve
                have hadv3 : u.up.at' = u.at' + 1 := rfl
                clear hV2 hvo
                by_cases hyx : y.toNat < x.toNat
                · have z1 : decide ((y.toNat : Int) < (x.toNat : Int)) = true := by simp; omega
                  rw [if_pos ⟨hve, hyx⟩] at hi2
                  have hU := HU.out S _ (HS.out.2.2.2.2.bad HS.out.1 HBG.out hi2 (by show (4 : Nat) ≠ 0; decide) n (by omega))
                  have hex : ({ v with at' := s.at', e := 4 } : Rd).expect 93 = { v with at' := s.at', e := 4 } := by rw [Rd.expect, if_pos (by show (4 : Nat) ≠ 0; decide)]
                  rw [hex, if_pos (by show (4 : Nat) ≠ 0; decide)] at hU
                  have HU2 := Lib.hid (show uncl t 0 n = (S4.nil, s.at', 4) from hU)
                  clear hU hex hi2 hadv2 hadv3 hve
                  go_wp2_with (first | (go_at_call 29; with_reducible refine (HR2.out _ (hb1.trans (hb2.mono hb1.size))).mono ?_; rintro e w2 ⟨rfl, hb3⟩; have hR2 := hR1.below hb3 hR1.lt; have hS2 := hS1.below hb3 hS1.lt; have hB2 := hB1.trans (hb3.mono hB1.size); clear r0c r1c r2c r3c f0 f1 f2 f3 c0 c1 c2 c3; obtain ⟨r0c, r1c, r2c, r3c⟩ := hR2.cells; obtain ⟨f0, f1, f2, f3⟩ := hR2.free; obtain ⟨c0, c1, c2, c3⟩ := hS2.cells) | (go_at_call 29; with_reducible refine HR.out.mono ?_; rintro e w1 ⟨rfl, hb2⟩; have hR1 := hR.below hb2 hR.lt; have hS1 := hS.below hb2 hS.lt; have hB1 := hB.trans (hb2.mono hB.size); clear r0c r1c r2c r3c f0 f1 f2 f3; obtain ⟨r0c, r1c, r2c, r3c⟩ := hR1.cells; obtain ⟨f0, f1, f2, f3⟩ := hR1.free; obtain ⟨c0, c1, c2, c3⟩ := hS1.cells))
                  refine bodyPost_ret (v := unclV (S4.nil, s.at', 4)) (runclass_res _ _ w.heap.size S4.nil _ _ rfl rfl rfl (hR2.store S4.nil)) rfl ⟨by rw [HU2.out], ?_⟩
                  exact (((hB2.setCell (Nat.le_refl _) _).setCell (Nat.le_refl _) _).setCell (Nat.le_refl _) _).setCell (Nat.le_refl _) _
                · have z1 : decide ((y.toNat : Int) < (x.toNat : Int)) = false := by simp; omega
                  rw [if_neg (fun k => hyx k.2)] at hi2
                  have HGO := Lib.hid (HS.out.2.2.2.2.step HS.out.1 HBG.out hi2 hve (by omega))
                  have HUE := Lib.hid hve
                  have HUT := Lib.hid hvt
                  have HUL := Lib.hid hvl
                  have hadv4 : s.at' < v.at' := by omega
                  clear hi2 hve hvt hadv2 hadv3 hut hu
                  obtain ⟨R, hRe⟩ : ∃ R, R = rg x y := ⟨_, rfl⟩
                  have HRG := Lib.hid (show ∀ w : World, Calls Tryd.prog 37 #[.int .u8 x.toNat, .int .u8 y.toNat] w fun e w' => e = .returned R.v ∧ Below w.heap.size w w' from fun w => by rw [hRe]; exact rrange_any x.toNat y.toNat (UInt8.toNat_lt _) (UInt8.toNat_lt _) w)
                  have hRok : R.ok := by rw [hRe]; exact ok_rg x y
                  obtain ⟨T, hTe⟩ : ∃ T, T = S.or R := ⟨_, rfl⟩
                  have HOR := Lib.hid (show ∀ w : World, Calls Tryd.prog 36 #[S.v, R.v] w fun e w' => e = .returned T.v ∧ Below w.heap.size w w' from fun w => by rw [hTe]; exact ror_any S R HS.out.2.2.2.1 hRok w)
                  have HTok := Lib.hid (show T.ok by rw [hTe]; exact S4.ok_or HS.out.2.2.2.1 hRok)
                  have HTe := Lib.hid (show T = S.or (rg x y) by rw [hTe, hRe])
                  clear hRe hRok hTe
                  go_wp2_with (first | (go_at_call 29; with_reducible refine (HR2.out _ (hb1.trans (hb2.mono hb1.size))).mono ?_; rintro e w2 ⟨rfl, hb3⟩; have hR2 := hR1.below hb3 hR1.lt; have hS2 := hS1.below hb3 hS1.lt; have hB2 := hB1.trans (hb3.mono hB1.size); clear r0c r1c r2c r3c f0 f1 f2 f3 c0 c1 c2 c3; obtain ⟨r0c, r1c, r2c, r3c⟩ := hR2.cells; obtain ⟨f0, f1, f2, f3⟩ := hR2.free; obtain ⟨c0, c1, c2, c3⟩ := hS2.cells) | (go_at_call 29; with_reducible refine HR.out.mono ?_; rintro e w1 ⟨rfl, hb2⟩; have hR1 := hR.below hb2 hR.lt; have hS1 := hS.below hb2 hS.lt; have hB1 := hB.trans (hb2.mono hB.size); clear r0c r1c r2c r3c f0 f1 f2 f3; obtain ⟨r0c, r1c, r2c, r3c⟩ := hR1.cells; obtain ⟨f0, f1, f2, f3⟩ := hR1.free; obtain ⟨c0, c1, c2, c3⟩ := hS1.cells))
                  go_region_with (first
                    | (go_at_call 37; refine (HRG.out _).mono ?_; rintro e w5 ⟨rfl, hb5⟩; have hS5 := Box4.below (W := w2.drew) (by exact hS2) hb5 (by exact hS2.lt); have hR5 := Box4.below (W := w2.drew) (by exact hR2) hb5 (by exact hR2.lt); have hB5 := bstep hB2.drew hb5; obtain ⟨p0, p1, p2, p3⟩ := hS5.cells)
                    | (go_at_call 36; refine (HOR.out _).mono ?_; rintro e w6 ⟨rfl, hb6⟩; have hS6 := hS5.below hb6 hS5.lt; have hR6 := hR5.below hb6 hR5.lt; have hB6 := bstep hB5 hb6; obtain ⟨j0, j1, j2, j3⟩ := hS6.cells; obtain ⟨k0, k1, k2, k3⟩ := hS6.free))
                  all_goals
                    go_wp2
                    go_roundw
                    case rel =>
                      refine ⟨v, T, rfl, ⟨HUE.out, HUT.out, HUL.out, HTok.out, by rw [HTe.out]; exact HGO.out⟩, ?_, hS6.store T, ?_⟩
                      · exact (((hR6.other (by simp) _).other (by simp) _).other (by simp) _).other (by simp) _
                      · exact (((hB6.setCell (by simp) _).setCell (by simp) _).setCell (by simp) _).setCell (by simp) _
                    case measure => simp [intOf]; omega
              · have hV2 : sgV (y, v) = .tuple #[.int .u8 0, .int .i64 v.at', .int .i64 v.e] := by unfold sgV; rw [if_neg hve]
                rw [hV2] at HR2
                have hv1 : ((v.e : Int) != 0) = true := by rw [bne_iff_ne]; omega
                have hv2 : ((v.e : Int) == 0) = false := by rw [beq_eq_false_iff_ne]; omega
                rw [if_neg (fun k => hve k.1)] at hi2
                have hU := HU.out S v (HS.out.2.2.2.2.bad HS.out.1 HBG.out hi2 hve n (by omega))
                have hex : v.expect 93 = v := by rw [Rd.expect, if_pos hve]
                rw [hex, if_pos hve] at hU
                have HU2 := Lib.hid hU
                clear hU hex hi2 hV2 hvo
                go_wp2_with (first | (go_at_call 29; with_reducible refine (HR2.out _ (hb1.trans (hb2.mono hb1.size))).mono ?_; rintro e w2 ⟨rfl, hb3⟩; have hR2 := hR1.below hb3 hR1.lt; have hS2 := hS1.below hb3 hS1.lt; have hB2 := hB1.trans (hb3.mono hB1.size); clear r0c r1c r2c r3c f0 f1 f2 f3 c0 c1 c2 c3; obtain ⟨r0c, r1c, r2c, r3c⟩ := hR2.cells; obtain ⟨f0, f1, f2, f3⟩ := hR2.free; obtain ⟨c0, c1, c2, c3⟩ := hS2.cells) | (go_at_call 29; with_reducible refine HR.out.mono ?_; rintro e w1 ⟨rfl, hb2⟩; have hR1 := hR.below hb2 hR.lt; have hS1 := hS.below hb2 hS.lt; have hB1 := hB.trans (hb2.mono hB.size); clear r0c r1c r2c r3c f0 f1 f2 f3; obtain ⟨r0c, r1c, r2c, r3c⟩ := hR1.cells; obtain ⟨f0, f1, f2, f3⟩ := hR1.free; obtain ⟨c0, c1, c2, c3⟩ := hS1.cells))
                refine bodyPost_ret (v := unclV (S4.nil, v.at', v.e)) (runclass_res _ _ w.heap.size S4.nil _ _ rfl rfl rfl (hR2.store S4.nil)) rfl ⟨by rw [HU2.out], ?_⟩
                exact (((hB2.setCell (Nat.le_refl _) _).setCell (Nat.le_refl _) _).setCell (Nat.le_refl _) _).setCell (Nat.le_refl _) _
          · have hV : sgV (x, u) = .tuple #[.int .u8 0, .int .i64 u.at', .int .i64 u.e] := by unfold sgV; rw [if_neg hu]
            rw [hV] at HR
            have hu1 : ((u.e : Int) != 0) = true := by rw [bne_iff_ne]; omega
            have hu2 : ((u.e : Int) == 0) = false := by rw [beq_eq_false_iff_ne]; omega
            -- the walk along the items ends here
            have hU : uncl t 0 n = (S4.nil, u.at', u.e) := by
              have key : ∃ f, FinR true s f := by
                cases hb : s.begins true with
                | false => exact ⟨s, .inl ⟨by rw [hb]; simp, rfl⟩⟩
                | true => exact ⟨_, .inr ⟨HS.out.1, hb, rfl, by rw [← HP.out]; exact hu⟩⟩
              obtain ⟨f, hf⟩ := key
              have h1 := HU.out S f (HS.out.2.2.2.2.fin hf n (by omega))
              have h2 := (HFE.out f hf).1
              dsimp only at h2
              rw [h2, if_pos hu] at h1
              exact h1
            have HU2 := Lib.hid hU
            clear hon hlk hV hU g1 g2 g3
            go_wp2_with (go_at_call 29; refine HR.out.mono ?_; rintro e w1 ⟨rfl, hb2⟩; have hR1 := hR.below hb2 hR.lt; have hB1 := hB.trans (hb2.mono hB.size); clear r0c r1c r2c r3c f0 f1 f2 f3; obtain ⟨r0c, r1c, r2c, r3c⟩ := hR1.cells; obtain ⟨f0, f1, f2, f3⟩ := hR1.free)
            refine bodyPost_ret (v := unclV (S4.nil, u.at', u.e)) (runclass_res _ _ w.heap.size S4.nil _ _ rfl rfl rfl (hR1.store S4.nil)) rfl ⟨by rw [HU2.out], ?_⟩
            exact (((hB1.setCell (Nat.le_refl _) _).setCell (Nat.le_refl _) _).setCell (Nat.le_refl _) _).setCell (Nat.le_refl _) _
      · have d1 : decide ((s.at' : Int) < (t.size : Int)) = false := by simp; omega
        have d2 : ¬ (s.at' : Int) < (t.size : Int) := by omega
        have d3 : decide (s.at' < t.size) = false := by simp; omega
        have g1 : decide ((t.size : Int) ≤ (s.at' : Int)) = true := by simp; omega
        have g2 : (t.size : Int) ≤ (s.at' : Int) := by omega
        have g3 : decide (t.size ≤ s.at') = true := by simp; omega
        have hU : uncl t 0 n = (S4.nil, t.size, 8) := by
          have hc : s.cur = none := by
            unfold Rd.cur
            rw [HS.out.2.1]
            exact Array.getElem?_eq_none (by show t.size ≤ s.at'; omega)
          have hb : s.begins true = false := by unfold Rd.begins; rw [hc]
          have hnx : s.next 93 = false := by unfold Rd.next; rw [hc]; rfl
          have h1 := HU.out S s (HS.out.2.2.2.2.fin (.inl ⟨by rw [hb]; simp, rfl⟩) n (by omega))
          have h2 : s.expect 93 = s.bad := by
            unfold Rd.expect
            rw [if_neg (by simpa using HS.out.1), if_neg (by rw [hnx]; simp)]
          rw [h2, if_pos s.bad_e] at h1
          rw [h1]
          unfold Rd.bad
          rw [HS.out.2.1, if_pos (by omega)]
          dsimp only
          rw [show s.at' = t.size by omega]
        have HU2 := Lib.hid hU
        clear hU
        go_wp2
        refine bodyPost_ret (v := unclV (S4.nil, t.size, 8)) (runclass_res _ _ w.heap.size S4.nil _ _ rfl rfl rfl (hR.store S4.nil)) rfl ⟨by rw [HU2.out], ?_⟩
        exact (((hB.setCell (Nat.le_refl _) _).setCell (Nat.le_refl _) _).setCell (Nat.le_refl _) _).setCell (Nat.le_refl _) _
end Go.Proofs.YtjaklcmadkpmdaaDoor
end
section
namespace Go.Proofs.YtjaklcmadkpmdaaDoor
open Go Go.RowKit Go.Shelf
set_option linter.unusedSimpArgs false
set_option linter.unusedVariables false
attribute [local go_sem] Oper.semAt_some

set_option maxRecDepth 100000 in
set_option maxHeartbeats 4000000 in
theorem runcl_one {w : World} (t : ByteArray) (h : t.size = 1) (hq : t[0].toNat = 91) (n : Nat) :
    Calls Tryd.prog 15 #[.string t] w fun e w' => e = .returned (unclV (uncl t 0 n)) ∧ Below w.heap.size w w' := by
  have h0 : 0 < t.size := by omega
  have hq0 : t[0] = 91 := UInt8.toNat_inj.1 hq
  have hc : (rd0 true t 0).up.cur = none := by
    unfold Rd.cur
    exact Array.getElem?_eq_none (by show t.size ≤ 1; omega)
  have hno : (rd0 true t 0).up.next 94 = false := by unfold Rd.next; rw [hc]; rfl
  have hb : (rd0 true t 0).up.begins true = false := by unfold Rd.begins; rw [hc]
  have hi : (rd0 true t 0).up.items n S4.nil = (S4.nil, (rd0 true t 0).up) := by
    cases n with
    | zero => rfl
    | succ n => rw [Rd.items, if_neg (by rw [hb]; simp)]
  have hx : (rd0 true t 0).up.expect 93 = (rd0 true t 0).up.bad := by
    unfold Rd.expect
    rw [if_neg (by show ¬ (0 : Nat) ≠ 0; simp), if_neg (by unfold Rd.next; rw [hc]; simp)]
  have hU : uncl t 0 n = (S4.nil, 1, 8) := by
    have hl : (if false = true then (rd0 true t 0).up.up else (rd0 true t 0).up).items n S4.nil = (S4.nil, (rd0 true t 0).up) := hi
    rw [uncl_of h0 hq0 false hno n hl, hx, if_pos (Rd.bad_e _)]
    unfold Rd.bad
    rw [if_pos (by show t.size ≤ 1; omega)]
    rfl
  rw [hU]
  have he : t.toList.isEmpty = false := by
    rw [List.isEmpty_eq_false_iff]
    intro k
    rw [toList_nil_iff_emptyBytes] at k
    subst k
    exact absurd h0 (by decide)
  have hq1 : ((t[0].toNat : Int) != 91) = false := by rw [bne_eq_false_iff_eq]; omega
  have d0 : decide ((1 : Int) < (t.size : Int)) = false := by simp; omega
  have d1 : ¬ (1 : Int) < (t.size : Int) := by omega
  have d2 : decide (1 < t.size) = false := by simp; omega
  have g1 : decide ((t.size : Int) ≤ 1) = true := by simp; omega
  have g2 : (t.size : Int) ≤ 1 := by omega
  have g3 : decide (t.size ≤ 1) = true := by simp; omega
  have HE := Lib.hid h
  clear hU hx hi hb hno hc hq0 hq h
  go_enter Tryd.func15, Tryd.ntmps15
  go_wp2_with fail
  go_loopw [6] (fun i wr => i = .int .i64 1 ∧ Box4 wr w.heap.size S4.nil ∧ Below w.heap.size w wr) (fun _ _ => 0)
  case atStart => exact ⟨rfl, Box4.alloc (Box4.new w S4.nil) _, ((Below.refl _ w).alloc (Nat.le_refl _) _).alloc (by simp) _⟩
  case round =>
    obtain ⟨rfl, hR, hB⟩ := hrel
    obtain ⟨r0c, r1c, r2c, r3c⟩ := hR.cells
    obtain ⟨f0, f1, f2, f3⟩ := hR.free
    go_wp2
    refine bodyPost_ret (v := unclV (S4.nil, t.size, 8)) (runclass_res _ _ w.heap.size S4.nil _ _ rfl rfl rfl (hR.store S4.nil)) rfl ⟨by rw [HE.out], ?_⟩
    exact (((hB.setCell (Nat.le_refl _) _).setCell (Nat.le_refl _) _).setCell (Nat.le_refl _) _).setCell (Nat.le_refl _) _

theorem runclass_at {W0 w : World} (hI : Inv W0) (hb0 : Below W0.heap.size W0 w) (t : ByteArray) (hs : t.size ≤ 20000) (n : Nat) (hn : t.size < n) :
    Calls Tryd.prog 15 #[.string t] w fun e w' => e = .returned (unclV (uncl t 0 n)) ∧ Below w.heap.size w w' := by
  by_cases h : 0 < t.size
  · by_cases hq : t[0].toNat = 91
    · by_cases h1 : 1 < t.size
      · exact runcl_loop hI hb0 t hs h1 hq n hn _ rfl
      · exact runcl_one t (by omega) hq n
    · exact runcl_form t h hq n
  · exact runcl_none t (by omega) n

theorem rs_all : rs (lstB S4.nil.not) = [(0, 255)] := by
  have h : (rs (lstB S4.nil.not)).length = 1 ∧ ((rs (lstB S4.nil.not)).map fun p => (p.1.toNat, p.2.toNat)) = [(0, 255)] := by decide +kernel
  obtain ⟨h1, h2⟩ := h
  rcases hx : rs (lstB S4.nil.not) with _ | ⟨p, _ | ⟨q, l⟩⟩
  · rw [hx] at h1; cases h1
  · rw [hx] at h2
    simp only [List.map_cons, List.map_nil, List.cons.injEq, Prod.mk.injEq, and_true] at h2
    rw [show p = ((0 : UInt8), (255 : UInt8)) from Prod.ext (u8_eq h2.1) (u8_eq h2.2)]
  · rw [hx] at h1; cases h1
theorem all_of_rs {s : S4} (hs : s.ok) (h : rs (lstB s) = [(0, 255)]) : s = S4.nil.not := S4.ext hs (S4.ok_not S4.ok_nil) fun n hn => by
  rw [S4.has_not S4.ok_nil, S4.has_nil, ← inR_set s n hn, h]
  show ((decide ((0 : UInt8).toNat ≤ n ∧ n ≤ (255 : UInt8).toNat)) || false) = true
  rw [Bool.or_false, decide_eq_true_eq]
  exact ⟨Nat.zero_le _, by show n ≤ 255; omega⟩

@[go_sem] theorem eq2 (a b a' b' : Int) (w : World) : (Op.equalIn 10000 68 (.agg #[.int .u8 a, .int .u8 b]) (.agg #[.int .u8 a', .int .u8 b'])).run Tryd.prog w = .ok (a == a' && b == b') w := by
  have u3 := Tryd.underlying5
  have a3 := Tryd.isAgg5
  have z3 := Tryd.sizeOf5
  rw [show (10000 : Nat) = 9999 + 1 from rfl, Op.equalIn]
  simp only [Sem.run_bind, run_underlying Tryd.underlying68, Result.andThen_ok]
  simp only [Std.Legacy.Range.forIn_eq_forIn_range', Std.Legacy.Range.size, Nat.sub_zero, Nat.add_sub_cancel, Nat.div_one, List.range'_succ, List.range'_zero, List.forIn_cons, List.forIn_nil]
  go_simp
  by_cases h1 : a = a' <;> by_cases h2 : b = b' <;> simp [h1, h2]

theorem bytes_appz (l : List UInt8) (x : ByteArray) : (⟨l.toArray⟩ : ByteArray) ++ x = ⟨(l ++ x.data.toList).toArray⟩ := by
  apply ByteArray.ext
  rw [ByteArray.data_append]
  simp
theorem app_step {P z : ByteArray} {l : List UInt8} (h : P ++ z = ⟨l.toArray⟩) (A : ByteArray) : P ++ (z ++ A) = ⟨(l ++ A.data.toList).toArray⟩ := by
  rw [← ByteArray.append_assoc, h, bytes_appz]
theorem runL_cases (x y : UInt8) (h : x.toNat ≤ y.toNat) : runL (x, y) = sg true x ++ (if x.toNat + 1 < y.toNat then [45] else []) ++ (if x.toNat < y.toNat then sg true y else []) := by
  have ha := UInt8.toNat_lt x
  have hb := UInt8.toNat_lt y
  have hw : IntKind.u8.wrap ((y.toNat : Int) - (x.toNat : Int)) = (y.toNat : Int) - x.toNat := by rw [IntKind.wrap_u8]; exact Int.emod_eq_of_lt (by omega) (by omega)
  unfold runL far oth
  dsimp only
  rw [hw]
  congr 1
  · congr 1
    by_cases k : x.toNat + 1 < y.toNat
    · rw [if_pos k, if_pos (by rw [decide_eq_true_eq]; omega)]
    · rw [if_neg k, if_neg (by rw [decide_eq_true_eq]; omega)]
  · by_cases k : x.toNat < y.toNat
    · rw [if_pos k, if_pos (by rw [bne_iff_ne]; omega)]
    · rw [if_neg k, if_neg (by rw [bne_iff_ne]; omega)]

set_option maxRecDepth 100000 in
set_option maxHeartbeats 4000000 in
theorem rclass_any {W0 w : World} (hI : Inv W0) (hb0 : Below W0.heap.size W0 w) (s : S4) (hs : s.ok) :
    Calls Tryd.prog 16 #[s.v] w fun e w' => e = .returned (.string ⟨(clsL s).toArray⟩) ∧ Below w.heap.size w w' := by
  have HI := Lib.hid hI
  have HB0 := Lib.hid hb0
  clear hI hb0
  obtain ⟨R, hR⟩ : ∃ R, R = rs (lstB s) := ⟨_, rfl⟩
  have HR := Lib.hid (show ∀ w : World, Calls Tryd.prog 39 #[s.v] w fun e w' => ∃ v, (e = .returned v ∧ w'.ownsRow (w.heap.size + 1) 68 2 v R.length (runsV R)) ∧ Below w.heap.size w w' from fun w => by rw [hR]; exact rruns_any s hs w)
  have hN : Below w.heap.size w (w.alloc (.cells #[.int .u64 s.a, .int .u64 s.b, .int .u64 s.c, .int .u64 s.d] 31)) := (Below.refl _ w).alloc (Nat.le_refl _) _
  have hRl : R.length ≤ 256 := by rw [hR]; exact rs256 s
  have HORD := Lib.hid (show ∀ p ∈ R, p.1.toNat ≤ p.2.toNat from by rw [hR]; exact (rs_cov _).1)
  cases hE : same4 s S4.nil.not with
  | true =>
    have hs2 : s = S4.nil.not := (same4_iff s S4.nil.not).1 hE
    have hR2 : R = [(0, 255)] := by rw [hR, hs2]; exact rs_all
    have HCL := Lib.hid (show clsL s = [46] from by unfold clsL; rw [if_pos hE])
    have hl1 : R.length = 1 := by rw [hR2]; rfl
    have H0 := Lib.hid hR2
    clear hR hs2 hE hs hR2
    have e1 : ((R.length : Int) == 1) = true := by rw [beq_iff_eq]; omega
    go_enter Tryd.func16, Tryd.ntmps16
    go_wp2_with fail
    refine (HR.out _).mono ?_
    rintro e w1 ⟨v, ⟨rfl, hrow⟩, hb1⟩
    have hN1 := bstep hN hb1
    have hRA := runs_of_row (b := w.heap.size) hrow (by simp; omega)
    obtain ⟨p, cap, rfl, hRx⟩ := hRA
    have hRA : RunsAt w.heap.size w1 (.slice p R.length cap) R := ⟨p, cap, rfl, hRx⟩
    obtain ⟨g, cur, rfl, hg, hh, k1, k2⟩ := hRx 0 (by omega)
    have o1 := (Lib.cell_of_heap hh 0).trans k1
    have o2 := (Lib.cell_of_heap hh 1).trans k2
    clear hrow hRx hh k1 k2
    have q0 : (R[0]'(by omega)) = ((0 : UInt8), (255 : UInt8)) := by simp only [H0.out]; rfl
    rw [q0] at o1 o2
    have hin : (0 : Int) < (R.length : Int) := by omega
    go_wp2
    go_ret
    exact ⟨congrArg (fun x => Ending.returned (Value.string x)) (by rw [HCL.out]), hN1⟩
  | false =>
    have HCL := Lib.hid (show clsL s = clsP R R.length ++ [93] from by unfold clsL; rw [hE, hR]; simp)
    have HNE := Lib.hid (show R ≠ [(0, 255)] from fun k => by
      have := all_of_rs hs (by rw [← hR]; exact k)
      rw [(same4_iff s S4.nil.not).2 this] at hE
      cases hE)
    clear hR hs hE
    by_cases hl1 : R.length = 1
    · have e1 : ((R.length : Int) == 1) = true := by rw [beq_iff_eq]; omega
      have hin : (0 : Int) < (R.length : Int) := by omega
      go_enter Tryd.func16, Tryd.ntmps16
      go_wp2_with fail
      refine (HR.out _).mono ?_
      rintro e w1 ⟨v, ⟨rfl, hrow⟩, hb1⟩
      have hN1 := bstep hN hb1
      have hRA := runs_of_row (b := w.heap.size) hrow (by simp; omega)
      obtain ⟨p, cap, rfl, hRx⟩ := hRA
      have hRA : RunsAt w.heap.size w1 (.slice p R.length cap) R := ⟨p, cap, rfl, hRx⟩
      obtain ⟨g, cur, rfl, hg, hh, k1, k2⟩ := hRx 0 (by omega)
      have o1 := (Lib.cell_of_heap hh 0).trans k1
      have o2 := (Lib.cell_of_heap hh 1).trans k2
      clear hrow hRx hh k1 k2
      have hne : ¬ ((R[0]'(by omega)).1.toNat = 0 ∧ (R[0]'(by omega)).2.toNat = 255) := fun k => by
        apply HNE.out
        rcases hx : R with _ | ⟨q, _ | ⟨q2, l⟩⟩
        · rw [hx] at hl1; cases hl1
        · simp only [hx, List.getElem_cons_zero] at k
          rw [show q = ((0 : UInt8), (255 : UInt8)) from Prod.ext (u8_eq k.1) (u8_eq k.2)]
        · rw [hx] at hl1; simp at hl1
      generalize (R[0]'(by omega)).1 = x at o1 hne
      generalize (R[0]'(by omega)).2 = y at o2 hne
      by_cases hx0 : x.toNat = 0
      · have a1 : ((x.toNat : Int) == 0) = true := by rw [beq_iff_eq]; omega
        have a2 : ((y.toNat : Int) == 255) = false := by rw [beq_eq_false_iff_ne]; omega
        have a3 : ¬ (y.toNat : Int) = 255 := by omega
        clear hne hx0
        go_wp2_with fail
        clear a1 a2 a3 o1 o2 e1
        have HLP := Lib.hid (clsP_succ R)
        go_loopw [4, 5] (fun oo i wr => ∃ (k : Nat) (z : ByteArray), k ≤ R.length ∧ z.size ≤ 9 * k ∧ i = .int .i64 k ∧ oo = .string z ∧ Hid ((⟨#[91]⟩ : ByteArray) ++ z = ⟨(clsP R k).toArray⟩) ∧ RunsAt w.heap.size wr (.slice (some ⟨g, 0, none⟩) R.length cap) R ∧ Below w.heap.size w wr)
          (fun _ i _ => R.length - (intOf i).toNat)
        case atStart => exact ⟨0, ⟨#[]⟩, Nat.zero_le _, Nat.zero_le _, rfl, rfl, Lib.hid (by rw [show (⟨#[91]⟩ : ByteArray) = ⟨[91].toArray⟩ from rfl, bytes_appz]; rfl), hRA, hN1⟩
        case round =>
          clear hRA hN1
          obtain ⟨k, z, hk, hz, rfl, rfl, hH, hRA, hN⟩ := hrel
          by_cases hlt : k < R.length
          · obtain ⟨p', cap', he, hRx⟩ := id hRA
            cases he
            obtain ⟨g', cur, hge, hg, hh, c1, c2⟩ := hRx k hlt
            cases hge
            have hlk := HLP.out k hlt
            have hord := HORD.out _ (List.getElem_mem hlt)
            have d1 := (Lib.cell_of_heap hh (k * 2)).trans c1
            have d2 := (Lib.cell_of_heap hh (k * 2 + 1)).trans c2
            have hin : (k : Int) < (R.length : Int) := by omega
            clear hRx hh c1 c2
            generalize R[k] = q at d1 d2 hlk hord
            obtain ⟨x, y⟩ := q
            dsimp only at d1 d2 hord
            rw [runL_cases x y hord] at hlk
            have hx256 := UInt8.toNat_lt x
            have hy256 := UInt8.toNat_lt y
            have wx : IntKind.u8.wrap (x.toNat : Int) = (x.toNat : Int) := by rw [IntKind.wrap_u8]; exact Int.emod_eq_of_lt (by omega) (by omega)
            have wy : IntKind.u8.wrap (y.toNat : Int) = (y.toNat : Int) := by rw [IntKind.wrap_u8]; exact Int.emod_eq_of_lt (by omega) (by omega)
            obtain ⟨A, hA⟩ : ∃ A, A = sgnB true x.toNat := ⟨_, rfl⟩
            obtain ⟨B, hB⟩ : ∃ B, B = sgnB true y.toNat := ⟨_, rfl⟩
            have hAs : A.size ≤ 4 := by rw [hA]; exact sgnB_size true x
            have hBs : B.size ≤ 4 := by rw [hB]; exact sgnB_size true y
            have hAl : A.data.toList = sg true x := by rw [hA]; rfl
            have hBl : B.data.toList = sg true y := by rw [hB]; rfl
            have HSA := Lib.hid (show ∀ w', Below W0.heap.size W0 w' → Calls Tryd.prog 30 #[.int .u8 x.toNat, .string ⟨#[93, 45, 94, 92]⟩] w' fun e w'' => e = .returned (.string A) ∧ Below w'.heap.size w' w'' from fun w' hb => by rw [hA]; exact rSign_any true HI.out hb x)
            have HSB := Lib.hid (show ∀ w', Below W0.heap.size W0 w' → Calls Tryd.prog 30 #[.int .u8 y.toNat, .string ⟨#[93, 45, 94, 92]⟩] w' fun e w'' => e = .returned (.string B) ∧ Below w'.heap.size w' w'' from fun w' hb => by rw [hB]; exact rSign_any true HI.out hb y)
            have s1 : (z ++ A).size = z.size + A.size := ByteArray.size_append
            have s2 : (z ++ A ++ (⟨#[45]⟩ : ByteArray)).size = z.size + A.size + 1 := by rw [ByteArray.size_append, s1]; rfl
            have c1 : z.size + A.size ≤ 9223372036854775807 := by omega
            have c2 : ¬ (9223372036854775807 < z.size + A.size) := by omega
            have c3 : (z ++ A).size + B.size ≤ 9223372036854775807 := by omega
            have c4 : ¬ (9223372036854775807 < (z ++ A).size + B.size) := by omega
            have c5 : (z ++ A).size + (⟨#[45]⟩ : ByteArray).size ≤ 9223372036854775807 := by rw [s1]; show _ + 1 ≤ _; omega
            have c6 : ¬ (9223372036854775807 < (z ++ A).size + (⟨#[45]⟩ : ByteArray).size) := by omega
            have c7 : (z ++ A ++ (⟨#[45]⟩ : ByteArray)).size + B.size ≤ 9223372036854775807 := by omega
            have c8 : ¬ (9223372036854775807 < (z ++ A ++ (⟨#[45]⟩ : ByteArray)).size + B.size) := by omega
            have z1 : (z ++ A).size ≤ 9 * (k + 1) := by omega
            have z2 : (z ++ A ++ B).size ≤ 9 * (k + 1) := by rw [ByteArray.size_append]; omega
            have z3 : (z ++ A ++ (⟨#[45]⟩ : ByteArray) ++ B).size ≤ 9 * (k + 1) := by rw [ByteArray.size_append]; omega
            have HZ := Lib.hid (And.intro z1 (And.intro z2 z3))
            have HL := Lib.hid (And.intro hAl hBl)
            have HK := Lib.hid hlk
            clear hA hB hAl hBl hlk z1 z2 z3 s1 s2 hAs hBs
            by_cases h1 : x.toNat < y.toNat
            · have b1 : decide ((x.toNat : Int) < (y.toNat : Int)) = true := by simp; omega
              by_cases h2 : x.toNat + 1 < y.toNat
              · have b2 : decide ((x.toNat : Int) + 1 < (y.toNat : Int)) = true := by simp; omega
                go_wp2_with fail
                go_region
                all_goals
                  have hRA := hRA.below (Below.refl _ wr).drew
                  have hN := hN.drew
                  go_wp2_with (first | (go_at_call 30; with_reducible refine (HSA.out _ (HB0.out.trans (hN.mono HB0.out.size))).mono ?_; rintro e wA ⟨rfl, hbA⟩; have hRA := hRA.below hbA; have hN := bstep hN hbA) | (go_at_call 30; with_reducible refine (HSB.out _ (HB0.out.trans (hN.mono HB0.out.size))).mono ?_; rintro e wB ⟨rfl, hbB⟩; have hRA := hRA.below hbB; have hN := bstep hN hbB))
                  go_roundw
                  case rel =>
                    refine ⟨k + 1, _, by omega, HZ.out.2.2, by go_num, rfl, Lib.hid ?_, hRA, hN⟩
                    rw [app_step (app_step (app_step hH.out A) (⟨#[45]⟩ : ByteArray)) B, HK.out, HL.out.1, HL.out.2, if_pos h2, if_pos h1]
                    simp
                  case measure => simp [intOf]; omega
              · have b2 : decide ((x.toNat : Int) + 1 < (y.toNat : Int)) = false := by simp; omega
                go_wp2_with fail
                go_region
                all_goals
                  have hRA := hRA.below (Below.refl _ wr).drew
                  have hN := hN.drew
                  go_wp2_with (first | (go_at_call 30; with_reducible refine (HSA.out _ (HB0.out.trans (hN.mono HB0.out.size))).mono ?_; rintro e wA ⟨rfl, hbA⟩; have hRA := hRA.below hbA; have hN := bstep hN hbA) | (go_at_call 30; with_reducible refine (HSB.out _ (HB0.out.trans (hN.mono HB0.out.size))).mono ?_; rintro e wB ⟨rfl, hbB⟩; have hRA := hRA.below hbB; have hN := bstep hN hbB))
                  go_roundw
                  case rel =>
                    refine ⟨k + 1, _, by omega, HZ.out.2.1, by go_num, rfl, Lib.hid ?_, hRA, hN⟩
                    rw [app_step (app_step hH.out A) B, HK.out, HL.out.1, HL.out.2, if_neg h2, if_pos h1]
                    simp
                  case measure => simp [intOf]; omega
            · have b1 : decide ((x.toNat : Int) < (y.toNat : Int)) = false := by simp; omega
              have h2 : ¬ x.toNat + 1 < y.toNat := by omega
              have b2 : decide ((x.toNat : Int) + 1 < (y.toNat : Int)) = false := by simp; omega
              go_wp2_with fail
              go_region
              all_goals
                have hRA := hRA.below (Below.refl _ wr).drew
                have hN := hN.drew
                go_wp2_with (first | (go_at_call 30; with_reducible refine (HSA.out _ (HB0.out.trans (hN.mono HB0.out.size))).mono ?_; rintro e wA ⟨rfl, hbA⟩; have hRA := hRA.below hbA; have hN := bstep hN hbA))
                go_roundw
                case rel =>
                  refine ⟨k + 1, _, by omega, HZ.out.1, by go_num, rfl, Lib.hid ?_, hRA, hN⟩
                  rw [app_step hH.out A, HK.out, HL.out.1, if_neg h2, if_neg h1]
                  simp
                case measure => simp [intOf]; omega
          · obtain rfl : k = R.length := by omega
            have hc1 : (⟨#[91]⟩ : ByteArray).size + z.size ≤ 9223372036854775807 := by show 1 + z.size ≤ _; omega
            have hc2 : ((⟨#[91]⟩ : ByteArray) ++ z).size + (⟨#[93]⟩ : ByteArray).size ≤ 9223372036854775807 := by rw [ByteArray.size_append]; show 1 + z.size + 1 ≤ _; omega
            have hc3 : ¬ (9223372036854775807 < (⟨#[91]⟩ : ByteArray).size + z.size) := by omega
            have hc4 : ¬ (9223372036854775807 < ((⟨#[91]⟩ : ByteArray) ++ z).size + (⟨#[93]⟩ : ByteArray).size) := by omega
            go_wp2
            go_ret
            refine ⟨congrArg (fun x => Ending.returned (Value.string x)) ?_, hN⟩
            rw [hH.out, bytes_appz, HCL.out]
      · have a1 : ((x.toNat : Int) == 0) = false := by rw [beq_eq_false_iff_ne]; omega
        have a3 : ¬ (x.toNat : Int) = 0 := by omega
        clear hne hx0
        go_wp2_with fail
        clear a1 a3 o1 o2 e1
        have HLP := Lib.hid (clsP_succ R)
        go_loopw [4, 5] (fun oo i wr => ∃ (k : Nat) (z : ByteArray), k ≤ R.length ∧ z.size ≤ 9 * k ∧ i = .int .i64 k ∧ oo = .string z ∧ Hid ((⟨#[91]⟩ : ByteArray) ++ z = ⟨(clsP R k).toArray⟩) ∧ RunsAt w.heap.size wr (.slice (some ⟨g, 0, none⟩) R.length cap) R ∧ Below w.heap.size w wr)
          (fun _ i _ => R.length - (intOf i).toNat)
        case atStart => exact ⟨0, ⟨#[]⟩, Nat.zero_le _, Nat.zero_le _, rfl, rfl, Lib.hid (by rw [show (⟨#[91]⟩ : ByteArray) = ⟨[91].toArray⟩ from rfl, bytes_appz]; rfl), hRA, hN1⟩
        case round =>
          clear hRA hN1
          obtain ⟨k, z, hk, hz, rfl, rfl, hH, hRA, hN⟩ := hrel
          by_cases hlt : k < R.length
          · obtain ⟨p', cap', he, hRx⟩ := id hRA
            cases he
            obtain ⟨g', cur, hge, hg, hh, c1, c2⟩ := hRx k hlt
            cases hge
            have hlk := HLP.out k hlt
            have hord := HORD.out _ (List.getElem_mem hlt)
            have d1 := (Lib.cell_of_heap hh (k * 2)).trans c1
            have d2 := (Lib.cell_of_heap hh (k * 2 + 1)).trans c2
            have hin : (k : Int) < (R.length : Int) := by omega
            clear hRx hh c1 c2
            generalize R[k] = q at d1 d2 hlk hord
            obtain ⟨x, y⟩ := q
            dsimp only at d1 d2 hord
            rw [runL_cases x y hord] at hlk
            have hx256 := UInt8.toNat_lt x
            have hy256 := UInt8.toNat_lt y
            have wx : IntKind.u8.wrap (x.toNat : Int) = (x.toNat : Int) := by rw [IntKind.wrap_u8]; exact Int.emod_eq_of_lt (by omega) (by omega)
            have wy : IntKind.u8.wrap (y.toNat : Int) = (y.toNat : Int) := by rw [IntKind.wrap_u8]; exact Int.emod_eq_of_lt (by omega) (by omega)
            obtain ⟨A, hA⟩ : ∃ A, A = sgnB true x.toNat := ⟨_, rfl⟩
            obtain ⟨B, hB⟩ : ∃ B, B = sgnB true y.toNat := ⟨_, rfl⟩
            have hAs : A.size ≤ 4 := by rw [hA]; exact sgnB_size true x
            have hBs : B.size ≤ 4 := by rw [hB]; exact sgnB_size true y
            have hAl : A.data.toList = sg true x := by rw [hA]; rfl
            have hBl : B.data.toList = sg true y := by rw [hB]; rfl
            have HSA := Lib.hid (show ∀ w', Below W0.heap.size W0 w' → Calls Tryd.prog 30 #[.int .u8 x.toNat, .string ⟨#[93, 45, 94, 92]⟩] w' fun e w'' => e = .returned (.string A) ∧ Below w'.heap.size w' w'' from fun w' hb => by rw [hA]; exact rSign_any true HI.out hb x)
            have HSB := Lib.hid (show ∀ w', Below W0.heap.size W0 w' → Calls Tryd.prog 30 #[.int .u8 y.toNat, .string ⟨#[93, 45, 94, 92]⟩] w' fun e w'' => e = .returned (.string B) ∧ Below w'.heap.size w' w'' from fun w' hb => by rw [hB]; exact rSign_any true HI.out hb y)
            have s1 : (z ++ A).size = z.size + A.size := ByteArray.size_append
            have s2 : (z ++ A ++ (⟨#[45]⟩ : ByteArray)).size = z.size + A.size + 1 := by rw [ByteArray.size_append, s1]; rfl
            have c1 : z.size + A.size ≤ 9223372036854775807 := by omega
            have c2 : ¬ (9223372036854775807 < z.size + A.size) := by omega
            have c3 : (z ++ A).size + B.size ≤ 9223372036854775807 := by omega
            have c4 : ¬ (9223372036854775807 < (z ++ A).size + B.size) := by omega
            have c5 : (z ++ A).size + (⟨#[45]⟩ : ByteArray).size ≤ 9223372036854775807 := by rw [s1]; show _ + 1 ≤ _; omega
            have c6 : ¬ (9223372036854775807 < (z ++ A).size + (⟨#[45]⟩ : ByteArray).size) := by omega
            have c7 : (z ++ A ++ (⟨#[45]⟩ : ByteArray)).size + B.size ≤ 9223372036854775807 := by omega
            have c8 : ¬ (9223372036854775807 < (z ++ A ++ (⟨#[45]⟩ : ByteArray)).size + B.size) := by omega
            have z1 : (z ++ A).size ≤ 9 * (k + 1) := by omega
            have z2 : (z ++ A ++ B).size ≤ 9 * (k + 1) := by rw [ByteArray.size_append]; omega
            have z3 : (z ++ A ++ (⟨#[45]⟩ : ByteArray) ++ B).size ≤ 9 * (k + 1) := by rw [ByteArray.size_append]; omega
            have HZ := Lib.hid (And.intro z1 (And.intro z2 z3))
            have HL := Lib.hid (And.intro hAl hBl)
            have HK := Lib.hid hlk
            clear hA hB hAl hBl hlk z1 z2 z3 s1 s2 hAs hBs
            by_cases h1 : x.toNat < y.toNat
            · have b1 : decide ((x.toNat : Int) < (y.toNat : Int)) = true := by simp; omega
              by_cases h2 : x.toNat + 1 < y.toNat
              · have b2 : decide ((x.toNat : Int) + 1 < (y.toNat : Int)) = true := by simp; omega
                go_wp2_with fail
                go_region
                all_goals
                  have hRA := hRA.below (Below.refl _ wr).drew
                  have hN := hN.drew
                  go_wp2_with (first | (go_at_call 30; with_reducible refine (HSA.out _ (HB0.out.trans (hN.mono HB0.out.size))).mono ?_; rintro e wA ⟨rfl, hbA⟩; have hRA := hRA.below hbA; have hN := bstep hN hbA) | (go_at_call 30; with_reducible refine (HSB.out _ (HB0.out.trans (hN.mono HB0.out.size))).mono ?_; rintro e wB ⟨rfl, hbB⟩; have hRA := hRA.below hbB; have hN := bstep hN hbB))
                  go_roundw
                  case rel =>
                    refine ⟨k + 1, _, by omega, HZ.out.2.2, by go_num, rfl, Lib.hid ?_, hRA, hN⟩
                    rw [app_step (app_step (app_step hH.out A) (⟨#[45]⟩ : ByteArray)) B, HK.out, HL.out.1, HL.out.2, if_pos h2, if_pos h1]
                    simp
                  case measure => simp [intOf]; omega
              · have b2 : decide ((x.toNat : Int) + 1 < (y.toNat : Int)) = false := by simp; omega
                go_wp2_with fail
                go_region
                all_goals
                  have hRA := hRA.below (Below.refl _ wr).drew
                  have hN := hN.drew
                  go_wp2_with (first | (go_at_call 30; with_reducible refine (HSA.out _ (HB0.out.trans (hN.mono HB0.out.size))).mono ?_; rintro e wA ⟨rfl, hbA⟩; have hRA := hRA.below hbA; have hN := bstep hN hbA) | (go_at_call 30; with_reducible refine (HSB.out _ (HB0.out.trans (hN.mono HB0.out.size))).mono ?_; rintro e wB ⟨rfl, hbB⟩; have hRA := hRA.below hbB; have hN := bstep hN hbB))
                  go_roundw
                  case rel =>
                    refine ⟨k + 1, _, by omega, HZ.out.2.1, by go_num, rfl, Lib.hid ?_, hRA, hN⟩
                    rw [app_step (app_step hH.out A) B, HK.out, HL.out.1, HL.out.2, if_neg h2, if_pos h1]
                    simp
                  case measure => simp [intOf]; omega
            · have b1 : decide ((x.toNat : Int) < (y.toNat : Int)) = false := by simp; omega
              have h2 : ¬ x.toNat + 1 < y.toNat := by omega
              have b2 : decide ((x.toNat : Int) + 1 < (y.toNat : Int)) = false := by simp; omega
              go_wp2_with fail
              go_region
              all_goals
                have hRA := hRA.below (Below.refl _ wr).drew
                have hN := hN.drew
                go_wp2_with (first | (go_at_call 30; with_reducible refine (HSA.out _ (HB0.out.trans (hN.mono HB0.out.size))).mono ?_; rintro e wA ⟨rfl, hbA⟩; have hRA := hRA.below hbA; have hN := bstep hN hbA))
                go_roundw
                case rel =>
                  refine ⟨k + 1, _, by omega, HZ.out.1, by go_num, rfl, Lib.hid ?_, hRA, hN⟩
                  rw [app_step hH.out A, HK.out, HL.out.1, if_neg h2, if_neg h1]
                  simp
                case measure => simp [intOf]; omega
          · obtain rfl : k = R.length := by omega
            have hc1 : (⟨#[91]⟩ : ByteArray).size + z.size ≤ 9223372036854775807 := by show 1 + z.size ≤ _; omega
            have hc2 : ((⟨#[91]⟩ : ByteArray) ++ z).size + (⟨#[93]⟩ : ByteArray).size ≤ 9223372036854775807 := by rw [ByteArray.size_append]; show 1 + z.size + 1 ≤ _; omega
            have hc3 : ¬ (9223372036854775807 < (⟨#[91]⟩ : ByteArray).size + z.size) := by omega
            have hc4 : ¬ (9223372036854775807 < ((⟨#[91]⟩ : ByteArray) ++ z).size + (⟨#[93]⟩ : ByteArray).size) := by omega
            go_wp2
            go_ret
            refine ⟨congrArg (fun x => Ending.returned (Value.string x)) ?_, hN⟩
            rw [hH.out, bytes_appz, HCL.out]
    · have e1 : ((R.length : Int) == 1) = false := by rw [beq_eq_false_iff_ne]; omega
      go_enter Tryd.func16, Tryd.ntmps16
      go_wp2_with fail
      refine (HR.out _).mono ?_
      rintro e w1 ⟨v, ⟨rfl, hrow⟩, hb1⟩
      have hN1 := bstep hN hb1
      have hRA := runs_of_row (b := w.heap.size) hrow (by simp; omega)
      obtain ⟨p, cap, rfl, hRx⟩ := hRA
      have hRA : RunsAt w.heap.size w1 (.slice p R.length cap) R := ⟨p, cap, rfl, hRx⟩
      clear hrow hRx
      go_wp2_with fail
      clear e1
      have HLP := Lib.hid (clsP_succ R)
      go_loopw [4, 5] (fun oo i wr => ∃ (k : Nat) (z : ByteArray), k ≤ R.length ∧ z.size ≤ 9 * k ∧ i = .int .i64 k ∧ oo = .string z ∧ Hid ((⟨#[91]⟩ : ByteArray) ++ z = ⟨(clsP R k).toArray⟩) ∧ RunsAt w.heap.size wr (.slice p R.length cap) R ∧ Below w.heap.size w wr)
        (fun _ i _ => R.length - (intOf i).toNat)
      case atStart => exact ⟨0, ⟨#[]⟩, Nat.zero_le _, Nat.zero_le _, rfl, rfl, Lib.hid (by rw [show (⟨#[91]⟩ : ByteArray) = ⟨[91].toArray⟩ from rfl, bytes_appz]; rfl), hRA, hN1⟩
      case round =>
        clear hRA hN1
        obtain ⟨k, z, hk, hz, rfl, rfl, hH, hRA, hN⟩ := hrel
        by_cases hlt : k < R.length
        · obtain ⟨p', cap', he, hRx⟩ := id hRA
          cases he
          obtain ⟨g', cur, hge, hg, hh, c1, c2⟩ := hRx k hlt
          cases hge
          have hlk := HLP.out k hlt
          have hord := HORD.out _ (List.getElem_mem hlt)
          have d1 := (Lib.cell_of_heap hh (k * 2)).trans c1
          have d2 := (Lib.cell_of_heap hh (k * 2 + 1)).trans c2
          have hin : (k : Int) < (R.length : Int) := by omega
          clear hRx hh c1 c2
          generalize R[k] = q at d1 d2 hlk hord
          obtain ⟨x, y⟩ := q
          dsimp only at d1 d2 hord
          rw [runL_cases x y hord] at hlk
          have hx256 := UInt8.toNat_lt x
          have hy256 := UInt8.toNat_lt y
          have wx : IntKind.u8.wrap (x.toNat : Int) = (x.toNat : Int) := by rw [IntKind.wrap_u8]; exact Int.emod_eq_of_lt (by omega) (by omega)
          have wy : IntKind.u8.wrap (y.toNat : Int) = (y.toNat : Int) := by rw [IntKind.wrap_u8]; exact Int.emod_eq_of_lt (by omega) (by omega)
          obtain ⟨A, hA⟩ : ∃ A, A = sgnB true x.toNat := ⟨_, rfl⟩
          obtain ⟨B, hB⟩ : ∃ B, B = sgnB true y.toNat := ⟨_, rfl⟩
          have hAs : A.size ≤ 4 := by rw [hA]; exact sgnB_size true x
          have hBs : B.size ≤ 4 := by rw [hB]; exact sgnB_size true y
          have hAl : A.data.toList = sg true x := by rw [hA]; rfl
          have hBl : B.data.toList = sg true y := by rw [hB]; rfl
          have HSA := Lib.hid (show ∀ w', Below W0.heap.size W0 w' → Calls Tryd.prog 30 #[.int .u8 x.toNat, .string ⟨#[93, 45, 94, 92]⟩] w' fun e w'' => e = .returned (.string A) ∧ Below w'.heap.size w' w'' from fun w' hb => by rw [hA]; exact rSign_any true HI.out hb x)
          have HSB := Lib.hid (show ∀ w', Below W0.heap.size W0 w' → Calls Tryd.prog 30 #[.int .u8 y.toNat, .string ⟨#[93, 45, 94, 92]⟩] w' fun e w'' => e = .returned (.string B) ∧ Below w'.heap.size w' w'' from fun w' hb => by rw [hB]; exact rSign_any true HI.out hb y)
          have s1 : (z ++ A).size = z.size + A.size := ByteArray.size_append
          have s2 : (z ++ A ++ (⟨#[45]⟩ : ByteArray)).size = z.size + A.size + 1 := by rw [ByteArray.size_append, s1]; rfl
          have c1 : z.size + A.size ≤ 9223372036854775807 := by omega
          have c2 : ¬ (9223372036854775807 < z.size + A.size) := by omega
          have c3 : (z ++ A).size + B.size ≤ 9223372036854775807 := by omega
          have c4 : ¬ (9223372036854775807 < (z ++ A).size + B.size) := by omega
          have c5 : (z ++ A).size + (⟨#[45]⟩ : ByteArray).size ≤ 9223372036854775807 := by rw [s1]; show _ + 1 ≤ _; omega
          have c6 : ¬ (9223372036854775807 < (z ++ A).size + (⟨#[45]⟩ : ByteArray).size) := by omega
          have c7 : (z ++ A ++ (⟨#[45]⟩ : ByteArray)).size + B.size ≤ 9223372036854775807 := by omega
          have c8 : ¬ (9223372036854775807 < (z ++ A ++ (⟨#[45]⟩ : ByteArray)).size + B.size) := by omega
          have z1 : (z ++ A).size ≤ 9 * (k + 1) := by omega
          have z2 : (z ++ A ++ B).size ≤ 9 * (k + 1) := by rw [ByteArray.size_append]; omega
          have z3 : (z ++ A ++ (⟨#[45]⟩ : ByteArray) ++ B).size ≤ 9 * (k + 1) := by rw [ByteArray.size_append]; omega
          have HZ := Lib.hid (And.intro z1 (And.intro z2 z3))
          have HL := Lib.hid (And.intro hAl hBl)
          have HK := Lib.hid hlk
          clear hA hB hAl hBl hlk z1 z2 z3 s1 s2 hAs hBs
          by_cases h1 : x.toNat < y.toNat
          · have b1 : decide ((x.toNat : Int) < (y.toNat : Int)) = true := by simp; omega
            by_cases h2 : x.toNat + 1 < y.toNat
            · have b2 : decide ((x.toNat : Int) + 1 < (y.toNat : Int)) = true := by simp; omega
              go_wp2_with fail
              go_region
              all_goals
                have hRA := hRA.below (Below.refl _ wr).drew
                have hN := hN.drew
                go_wp2_with (first | (go_at_call 30; with_reducible refine (HSA.out _ (HB0.out.trans (hN.mono HB0.out.size))).mono ?_; rintro e wA ⟨rfl, hbA⟩; have hRA := hRA.below hbA; have hN := bstep hN hbA) | (go_at_call 30; with_reducible refine (HSB.out _ (HB0.out.trans (hN.mono HB0.out.size))).mono ?_; rintro e wB ⟨rfl, hbB⟩; have hRA := hRA.below hbB; have hN := bstep hN hbB))
                go_roundw
                case rel =>
                  refine ⟨k + 1, _, by omega, HZ.out.2.2, by go_num, rfl, Lib.hid ?_, hRA, hN⟩
                  rw [app_step (app_step (app_step hH.out A) (⟨#[45]⟩ : ByteArray)) B, HK.out, HL.out.1, HL.out.2, if_pos h2, if_pos h1]
                  simp
                case measure => simp [intOf]; omega
            · have b2 : decide ((x.toNat : Int) + 1 < (y.toNat : Int)) = false := by simp; omega
              go_wp2_with fail
              go_region
              all_goals
                have hRA := hRA.below (Below.refl _ wr).drew
                have hN := hN.drew
                go_wp2_with (first | (go_at_call 30; with_reducible refine (HSA.out _ (HB0.out.trans (hN.mono HB0.out.size))).mono ?_; rintro e wA ⟨rfl, hbA⟩; have hRA := hRA.below hbA; have hN := bstep hN hbA) | (go_at_call 30; with_reducible refine (HSB.out _ (HB0.out.trans (hN.mono HB0.out.size))).mono ?_; rintro e wB ⟨rfl, hbB⟩; have hRA := hRA.below hbB; have hN := bstep hN hbB))
                go_roundw
                case rel =>
                  refine ⟨k + 1, _, by omega, HZ.out.2.1, by go_num, rfl, Lib.hid ?_, hRA, hN⟩
                  rw [app_step (app_step hH.out A) B, HK.out, HL.out.1, HL.out.2, if_neg h2, if_pos h1]
                  simp
                case measure => simp [intOf]; omega
          · have b1 : decide ((x.toNat : Int) < (y.toNat : Int)) = false := by simp; omega
            have h2 : ¬ x.toNat + 1 < y.toNat := by omega
            have b2 : decide ((x.toNat : Int) + 1 < (y.toNat : Int)) = false := by simp; omega
            go_wp2_with fail
            go_region
            all_goals
              have hRA := hRA.below (Below.refl _ wr).drew
              have hN := hN.drew
              go_wp2_with (first | (go_at_call 30; with_reducible refine (HSA.out _ (HB0.out.trans (hN.mono HB0.out.size))).mono ?_; rintro e wA ⟨rfl, hbA⟩; have hRA := hRA.below hbA; have hN := bstep hN hbA))
              go_roundw
              case rel =>
                refine ⟨k + 1, _, by omega, HZ.out.1, by go_num, rfl, Lib.hid ?_, hRA, hN⟩
                rw [app_step hH.out A, HK.out, HL.out.1, if_neg h2, if_neg h1]
                simp
              case measure => simp [intOf]; omega
        · obtain rfl : k = R.length := by omega
          have hc1 : (⟨#[91]⟩ : ByteArray).size + z.size ≤ 9223372036854775807 := by show 1 + z.size ≤ _; omega
          have hc2 : ((⟨#[91]⟩ : ByteArray) ++ z).size + (⟨#[93]⟩ : ByteArray).size ≤ 9223372036854775807 := by rw [ByteArray.size_append]; show 1 + z.size + 1 ≤ _; omega
          have hc3 : ¬ (9223372036854775807 < (⟨#[91]⟩ : ByteArray).size + z.size) := by omega
          have hc4 : ¬ (9223372036854775807 < ((⟨#[91]⟩ : ByteArray) ++ z).size + (⟨#[93]⟩ : ByteArray).size) := by omega
          go_wp2
          go_ret
          refine ⟨congrArg (fun x => Ending.returned (Value.string x)) ?_, hN⟩
          rw [hH.out, bytes_appz, HCL.out]
end Go.Proofs.YtjaklcmadkpmdaaDoor
end
