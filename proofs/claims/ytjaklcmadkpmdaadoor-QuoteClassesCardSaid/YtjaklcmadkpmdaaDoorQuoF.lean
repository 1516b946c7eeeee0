/- Class: for every set. -/
import Derived.Deep.RegionWith
import Derived.Lib.LaidTab
import Derived.Test.YtjaklcmadkpmdaaDoorSetR
import Derived.Test.YtjaklcmadkpmdaaDoorQuoT
section
namespace Go.Proofs.YtjaklcmadkpmdaaDoor
open Go Go.RowKit Go.Shelf
set_option linter.unusedSimpArgs false

theorem tab_any {W : World} (h : Inv W) : Tab W := by
  have h := h.laid
  have hT : Lib.TabIs Tryd.prog W "math/bits.deBruijn64tab" .u8 (Lib.deBruijn64tab.map fun n : Nat => (n : Int)) := Lib.tabIs_of_head (zs := Lib.deBruijn64tab.map fun n : Nat => (n : Int)) (rest := []) (g := 0) (t := 87) (e := 5) (n := 64) (by kernel_rfl) (by kernel_rfl) Tryd.underlying87 Tryd.underlying5 (by kernel_rfl) (by kernel_rfl) h
  intro j hj
  have := hT.cell (g := 0) (by kernel_rfl) j (by simpa using hj)
  rw [this]
  simp [hj]
theorem tab_at {W0 W : World} (h : Inv W0) (hb : Below W0.heap.size W0 W) : Tab W := (tab_any h).below hb (tab_any h).lt

theorem runs_any (s : S4) (hs : s.ok) (w : World) (hT : Tab w) :
    Calls Tryd.prog 31 #[s.v] w fun e W' => ∃ v, e = .returned v ∧ W'.ownsRow w.heap.size 68 2 v (rs (lstB s)).length (runsV (rs (lstB s))) ∧ Below w.heap.size w W' := callsIn_wide.1 (runs_in s hs w hT)

/-- Two bytes in a block. -/
def Box2 (W : World) (g : Nat) (p : UInt8 × UInt8) : Prop := W.heap[g]? = some (.cells #[.int .u8 p.1.toNat, .int .u8 p.2.toNat] 68 (0, 0))
theorem Box2.lt {W : World} {g : Nat} {p : UInt8 × UInt8} (h : Box2 W g p) : g < W.heap.size := lt_of_block h
theorem Box2.cells {W : World} {g : Nat} {p : UInt8 × UInt8} (h : Box2 W g p) : W.cell? ⟨g, 0, none⟩ = some (.int .u8 p.1.toNat) ∧ W.cell? ⟨g, 1, none⟩ = some (.int .u8 p.2.toNat) := by
  unfold Box2 at h
  simp [World.cell?, h]
theorem Box2.below {B : Nat} {W W' : World} {g : Nat} {p : UInt8 × UInt8} (h : Box2 W g p) (hb : Below B W W') (hlt : g < B) : Box2 W' g p := (hb.block g hlt).trans h
theorem Box2.kept {W W' : World} {b g : Nat} {p : UInt8 × UInt8} (h : Box2 W g p) (hk : Kept b W W') (hne : g ≠ b) : Box2 W' g p :=
  hk g _ h (by simp [hne]) (by intro c fz e; cases e)

/-- A slice of runs, in a block that isn't b. -/
def RunsAt (b : Nat) (W : World) (v : Value) (R : List (UInt8 × UInt8)) : Prop :=
  ∃ p cap, v = .slice p R.length cap ∧ ∀ (j : Nat) (h : j < R.length), ∃ g cur, p = some ⟨g, 0, none⟩ ∧ g ≠ b ∧ W.heap[g]? = some (.cells cur 68 (0, 0)) ∧ cur[j * 2]? = some (.int .u8 R[j].1.toNat) ∧ cur[j * 2 + 1]? = some (.int .u8 R[j].2.toNat)
theorem RunsAt.below {b : Nat} {W W' : World} {v : Value} {R : List (UInt8 × UInt8)} (h : RunsAt b W v R) (hb : Below W.heap.size W W') : RunsAt b W' v R := by
  obtain ⟨p, cap, h1, h2⟩ := h
  refine ⟨p, cap, h1, fun j hj => ?_⟩
  obtain ⟨g, cur, e, hg, hh, c1, c2⟩ := h2 j hj
  exact ⟨g, cur, e, hg, (hb.block g (lt_of_block hh)).trans hh, c1, c2⟩
theorem RunsAt.kept {b : Nat} {W W' : World} {v : Value} {R : List (UInt8 × UInt8)} (h : RunsAt b W v R) (hk : Kept b W W') : RunsAt b W' v R := by
  obtain ⟨p, cap, h1, h2⟩ := h
  refine ⟨p, cap, h1, fun j hj => ?_⟩
  obtain ⟨g, cur, e, hg, hh, c1, c2⟩ := h2 j hj
  exact ⟨g, cur, e, hg, hk g _ hh (by simp [hg]) (by intro c fz e; cases e), c1, c2⟩
theorem runsV_at : ∀ (l : List (UInt8 × UInt8)) (j : Nat) (p : UInt8 × UInt8), l[j]? = some p → (runsV l)[j * 2]? = some (byteV p.1) ∧ (runsV l)[j * 2 + 1]? = some (byteV p.2)
  | [], j, p, h => by simp at h
  | q :: l, 0, p, h => by
    have h : q = p := by simpa using h
    subst h
    exact ⟨rfl, rfl⟩
  | q :: l, j + 1, p, h => by
    have h : l[j]? = some p := by simpa using h
    obtain ⟨h1, h2⟩ := runsV_at l j p h
    have e : runsV (q :: l) = byteV q.1 :: byteV q.2 :: runsV l := rfl
    rw [e, show (j + 1) * 2 = j * 2 + 1 + 1 by omega]
    exact ⟨h1, h2⟩
theorem runs_of_row {base b : Nat} {W : World} {v : Value} {R : List (UInt8 × UInt8)} (h : W.ownsRow base 68 2 v R.length (runsV R)) (hb : b < base) : RunsAt b W v R := by
  obtain ⟨h1, ⟨rfl, h0⟩ | ⟨g, cap, cur, rfl, hg, hh, hn, hc, hsz, ht⟩⟩ := h
  · exact ⟨none, 0, by rw [h0], fun j hj => by omega⟩
  · refine ⟨some ⟨g, 0, none⟩, cap, rfl, fun j hj => ⟨g, cur, rfl, by omega, hh, ?_, ?_⟩⟩
    · have := (runsV_at R j R[j] (List.getElem?_eq_getElem hj)).1
      rw [← ht, List.getElem?_take_of_lt (by omega)] at this
      simpa [byteV] using this
    · have := (runsV_at R j R[j] (List.getElem?_eq_getElem hj)).2
      rw [← ht, List.getElem?_take_of_lt (by omega)] at this
      simpa [byteV] using this

/-- More than one byte between? -/
def far (p : UInt8 × UInt8) : Bool := decide (1 < IntKind.u8.wrap ((p.2.toNat : Int) - (p.1.toNat : Int)))
/-- Another byte? -/
def oth (p : UInt8 × UInt8) : Bool := ((p.2.toNat : Int) != (p.1.toNat : Int))
/-- What is written of a run. -/
def runL (p : UInt8 × UInt8) : List UInt8 := sg true p.1 ++ (if far p then [45] else []) ++ (if oth p then sg true p.2 else [])
theorem runL_len (p : UInt8 × UInt8) : (runL p).length ≤ 9 := by
  have h1 := sg_len true p.1
  have h2 := sg_len true p.2
  unfold runL
  rw [List.length_append, List.length_append]
  have h3 : (if far p then [(45 : UInt8)] else []).length ≤ 1 := by split <;> simp
  have h4 : (if oth p then sg true p.2 else []).length ≤ 4 := by split <;> simp [h2]
  omega
def clsP (R : List (UInt8 × UInt8)) (k : Nat) : List UInt8 := [91] ++ (R.take k).flatMap runL
theorem clsP_succ (R : List (UInt8 × UInt8)) (k : Nat) (h : k < R.length) : clsP R (k + 1) = clsP R k ++ runL R[k] := by
  unfold clsP
  rw [List.take_succ_eq_append_getElem h, List.flatMap_append]
  simp
theorem clsP_len (R : List (UInt8 × UInt8)) : ∀ k, k ≤ R.length → (clsP R k).length ≤ 1 + 9 * k
  | 0, _ => by simp [clsP]
  | k + 1, h => by
    rw [clsP_succ R k h, List.length_append]
    have := clsP_len R k (by omega)
    have := runL_len R[k]
    omega
/-- The class of a set. -/
def clsL (s : S4) : List UInt8 := if same4 s S4.nil.not then [46] else clsP (rs (lstB s)) (rs (lstB s)).length ++ [93]
theorem rs256 (s : S4) : (rs (lstB s)).length ≤ 256 := by
  have h1 := rs_len (lstB s)
  have h2 : (lstB s).length ≤ 256 := by
    have := List.length_filter_le s.has (List.range 256)
    rw [List.length_range] at this
    simpa [lstB, S4.lst] using this
  omega

set_option maxRecDepth 100000 in
set_option maxHeartbeats 4000000 in
theorem class_all {w : World} (s : S4) (hE : same4 s S4.nil.not = true) :
    Calls Tryd.prog 13 #[s.v] w fun e w' => e = .returned (.string ⟨#[46]⟩) ∧ Below w.heap.size w w' := by
  have hbs := Box4.new w s
  have hN : Below w.heap.size w (w.alloc (.cells #[.int .u64 s.a, .int .u64 s.b, .int .u64 s.c, .int .u64 s.d] 31)) := (Below.refl _ w).alloc (Nat.le_refl _) _
  go_enter Tryd.func13, Tryd.ntmps13
  go_wp2_with fail
  obtain ⟨x0, x1, x2, x3⟩ := hbs.cells
  go_region_with (go_at_call 17; refine (all_any _).mono ?_; rintro e w1 ⟨rfl, hb⟩; have hsz := hb.size; obtain ⟨y0, y1, y2, y3⟩ := (hbs.drew.below hb hbs.lt).cells; have hN1 := bstep hN.drew hb)
  all_goals
    go_wp2
    go_ret
    exact ⟨rfl, hN1⟩

theorem wsign_any (cls : Bool) (B b : Nat) (l : List UInt8) (c : UInt8) (w : World) (h : Bld B b l w) (hlen : l.length + 4 ≤ 140737488355328) :
    Calls Tryd.prog 23 #[.pointer (some ⟨b, 0, none⟩), .string (sgnB cls c.toNat)] w fun e w' => (∃ v, e = .returned v) ∧ Bld B b (l ++ sg cls c) w' ∧ Below B w w' ∧ Kept b w w' :=
  (wstring_any B b l (sgnB cls c.toNat) w h (by have := sgnB_size cls c; omega)).mono fun _ _ ⟨h1, h2, h3, h4⟩ => ⟨⟨_, h1⟩, h2, h3, h4⟩

set_option maxRecDepth 100000 in
set_option maxHeartbeats 4000000 in
theorem class_rest {W0 w : World} (hI : Inv W0) (hb0 : Below W0.heap.size W0 w) (s : S4) (hs : s.ok) (hE : same4 s S4.nil.not = false) :
    Calls Tryd.prog 13 #[s.v] w fun e w' => e = .returned (.string ⟨(clsP (rs (lstB s)) (rs (lstB s)).length ++ [93]).toArray⟩) ∧ Below w.heap.size w w' := by
  have HI := Lib.hid hI
  have HB0 := Lib.hid hb0
  clear hI hb0
  have hbs := Box4.new w s
  have hN : Below w.heap.size w (w.alloc (.cells #[.int .u64 s.a, .int .u64 s.b, .int .u64 s.c, .int .u64 s.d] 31)) := (Below.refl _ w).alloc (Nat.le_refl _) _
  obtain ⟨R, hR⟩ : ∃ R, R = rs (lstB s) := ⟨_, rfl⟩
  have hRl : R.length ≤ 256 := by rw [hR]; exact rs256 s
  have HR := Lib.hid (show ∀ w, Tab w → Calls Tryd.prog 31 #[s.v] w fun e W' => ∃ v, e = .returned v ∧ W'.ownsRow w.heap.size 68 2 v R.length (runsV R) ∧ Below w.heap.size w W' from fun w hT => by rw [hR]; exact runs_any s hs w hT)
  rw [← hR]
  clear hR hs
  go_enter Tryd.func13, Tryd.ntmps13
  go_wp2_with fail
  obtain ⟨x0, x1, x2, x3⟩ := hbs.cells
  go_region_with (go_at_call 17; refine (all_any _).mono ?_; rintro e w1 ⟨rfl, hb⟩; have hsz := hb.size; have hbs1 := Lib.hid (hbs.drew.below hb hbs.lt); obtain ⟨y0, y1, y2, y3⟩ := hbs1.out.cells; have hN1 := bstep hN.drew hb)
  all_goals
    have hlw := hbs1.out.lt
    have hnew := Bld.new w1
    have hN2 := hN1.alloc hN1.size (.cells #[.pointer none, .slice none 0 0] 47)
    have hbs2 := hbs1.out.alloc (.cells #[.pointer none, .slice none 0 0] 47)
    have hle : w.heap.size ≤ w1.heap.size := hN1.size
    clear hbs hN hb hsz y0 y1 y2 y3 x0 x1 x2 x3 hN1 hbs1
    go_wp2_with fail
    refine (wbyte_any _ _ _ 91 _ rfl _ hnew (by simp)).mono ?_
    rintro e w2 ⟨rfl, hB, hb2, _⟩
    have hN3 := hN2.trans (hb2.mono hle)
    have hbs3 := hbs2.below hb2 hlw
    clear hnew hN2 hbs2 hb2
    obtain ⟨z0, z1, z2, z3⟩ := hbs3.cells
    go_wp2_with fail
    refine (HR.out _ (tab_at HI.out (bstep HB0.out hN3))).mono ?_
    rintro e w3 ⟨v, rfl, hrow, hb3⟩
    have hRA := runs_of_row hrow hB.lt.2
    have hB := hB.below hb3
    have hN := bstep hN3 hb3
    obtain ⟨p, cap, rfl, hRx⟩ := hRA
    have hRA : RunsAt w1.heap.size w3 (.slice p R.length cap) R := ⟨p, cap, rfl, hRx⟩
    clear hrow hb3 hN3 hbs3 z0 z1 z2 z3 hRx
    have hlp := Lib.hid (clsP_succ R)
    have hll := Lib.hid (clsP_len R)
    obtain ⟨b, hbe⟩ : ∃ b, b = w1.heap.size := ⟨_, rfl⟩
    rw [← hbe] at hB hRA hle
    try rw [← hbe]
    go_wp2_with fail
    try rw [← hbe]
    clear hbe
    go_loopw [13] (fun i wr => ∃ k : Nat, k ≤ R.length ∧ i = .int .i64 k ∧ Bld b b (clsP R k) wr ∧ RunsAt b wr (.slice p R.length cap) R ∧ Below w.heap.size w wr)
      (fun i _ => R.length - (intOf i).toNat)
    case atStart => exact ⟨0, Nat.zero_le _, rfl, hB, hRA, hN⟩
    case round =>
      clear hB hRA hN
      obtain ⟨k, hk, rfl, hB, hRA, hN⟩ := hrel
      have hlen := hll.out k hk
      by_cases hlt : k < R.length
      · obtain ⟨p', cap', he, hRx⟩ := id hRA
        cases he
        obtain ⟨g, cur, rfl, hg, hh, c1, c2⟩ := hRx k hlt
        have hlk := Lib.hid (hlp.out k hlt)
        have d1 := (Lib.cell_of_heap hh (k * 2)).trans c1
        have d2 := (Lib.cell_of_heap hh (k * 2 + 1)).trans c2
        have hin : (k : Int) < (R.length : Int) := by omega
        clear hRx hh c1 c2
        generalize R[k] = q at d1 d2 hlk
        obtain ⟨x, y⟩ := q
        dsimp only at d1 d2
        have hX : Box2 (wr.alloc (.cells #[.int .u8 x.toNat, .int .u8 y.toNat] 68)) wr.heap.size (x, y) := heap_alloc_new _ _
        have hne : wr.heap.size ≠ b := by have := hB.lt; omega
        have hbA : Below wr.heap.size wr (wr.alloc (.cells #[.int .u8 x.toNat, .int .u8 y.toNat] 68)) := (Below.refl _ wr).alloc (Nat.le_refl _) _
        have hB := hB.below hbA
        have hRA := hRA.below hbA
        have hN := bstep hN hbA
        obtain ⟨e0, e1⟩ := hX.cells
        dsimp only at e0 e1
        cases hf : far (x, y) <;> cases ho : oth (x, y)
        all_goals
          have hrun := hlk.out
          unfold runL at hrun
          rw [hf, ho] at hrun
          simp only [if_true, Bool.false_eq_true, if_false, List.append_nil] at hrun
          clear hlk
          have hlk := Lib.hid hrun
          unfold far at hf
          unfold oth at ho
          dsimp only at hf ho hlk
          have hf2 := hf
          rw [IntKind.wrap_u8] at hf2
          have hf3 := hf
          have hf4 := hf2
          simp only [decide_eq_true_eq, decide_eq_false_iff_not] at hf3 hf4
          clear hrun
          go_wp2_with (first
            | (go_at_call 24; refine (sign_cls HI.out (bstep HB0.out hN) _).mono ?_; rintro e w' ⟨rfl, hb⟩; have hB := hB.below hb; have hX := hX.below hb hX.lt; have hRA := hRA.below hb; have hN := bstep hN hb; obtain ⟨e0, e1⟩ := hX.cells; dsimp only at e0 e1; clear hb)
            | (go_at_call 23; refine (wsign_any true _ _ _ _ _ hB (by first | omega | (simp only [List.length_append, List.length_cons, List.length_nil]; have := sg_len true x; omega))).mono ?_; rintro e w' ⟨⟨v, rfl⟩, hB, hb, hkp⟩; have hX := hX.kept hkp hne; have hRA := hRA.kept hkp; have hN := hN.trans (hb.mono hle); obtain ⟨e0, e1⟩ := hX.cells; dsimp only at e0 e1; clear hb hkp)
            | (go_at_call 22; refine (wbyte_any _ _ _ 45 _ rfl _ hB (by simp only [List.length_append, List.length_cons, List.length_nil]; have := sg_len true x; omega)).mono ?_; rintro e w' ⟨rfl, hB, hb, hkp⟩; have hX := hX.kept hkp hne; have hRA := hRA.kept hkp; have hN := hN.trans (hb.mono hle); obtain ⟨e0, e1⟩ := hX.cells; dsimp only at e0 e1; clear hb hkp))
          go_roundw
          case rel => exact ⟨k + 1, by omega, by go_num, by rw [hlk.out]; simpa only [List.append_assoc] using hB, hRA, hN⟩
          case measure => simp [intOf]; omega
      · obtain rfl : k = R.length := by omega
        go_wp2_with (first
          | (go_at_call 22; refine (wbyte_any _ _ _ 93 _ rfl _ hB (by omega)).mono ?_; rintro e w2 ⟨rfl, hB2, hb2, _⟩; have hN2 := hN.trans (hb2.mono hle))
          | (go_at_call 25; refine (bstring_any _ _ _ _ hB2).mono ?_; rintro e w3 ⟨rfl, hb3⟩; have hN3 := hN2.trans (hb3.mono hle)))
        go_ret
        exact ⟨rfl, hN3⟩
end Go.Proofs.YtjaklcmadkpmdaaDoor
end
section
namespace Go.Proofs.YtjaklcmadkpmdaaDoor
open Go Go.RowKit

/-- Bytes of which none is q, but behind a backslash. -/
def allq (q : UInt8) : UInt8 → List UInt8 → Bool
  | _, [] => true
  | p, x :: r => (x != q || p == 92) && allq q x r
theorem allq_append (q : UInt8) : ∀ (p : UInt8) (l m : List UInt8), allq q p l = true → (∀ p, allq q p m = true) → allq q p (l ++ m) = true
  | p, [], m, _, h => h p
  | p, x :: r, m, h1, h2 => by
    rw [allq, Bool.and_eq_true] at h1
    rw [List.cons_append, allq, h1.1, Bool.true_and]
    exact allq_append q x r m h1.2 h2
theorem allq_flat (q : UInt8) {α : Type} (f : α → List UInt8) (hf : ∀ a p, allq q p (f a) = true) : ∀ (l : List α) (p : UInt8), allq q p (l.flatMap f) = true
  | [], _ => rfl
  | a :: l, p => by
    rw [List.flatMap_cons]
    exact allq_append q p _ _ (hf a p) fun p => allq_flat q f hf l p
theorem allq_at (q : UInt8) : ∀ (p : UInt8) (l : List UInt8), allq q p l = true → ∀ i : Nat, l[i]? = some q → (p :: l)[i]? = some 92
  | p, [], _, i, h => by simp at h
  | p, x :: r, h, 0, hi => by
    rw [allq, Bool.and_eq_true, Bool.or_eq_true, bne_iff_ne, beq_iff_eq] at h
    have hi : x = q := by simpa using hi
    rcases h.1 with h1 | h1
    · exact absurd hi h1
    · simp [h1]
  | p, x :: r, h, i + 1, hi => by
    rw [allq, Bool.and_eq_true] at h
    have hi : r[i]? = some q := by simpa using hi
    simpa using allq_at q x r h.2 i hi

def low (x : UInt8) : Bool := decide (32 ≤ x.toNat) && decide (x.toNat ≤ 126)
/-- The byte that ends it. -/
def endQ (cls : Bool) : UInt8 := if cls then 93 else 34
def okS (cls : Bool) (l : List UInt8) : Bool := l.all low && (match l with
  | [] => true
  | x :: r => x != endQ cls && allq (endQ cls) x r)
set_option maxRecDepth 100000 in
theorem signs_ok (cls : Bool) : below (fun b => okS cls ((sgn cls b).map UInt8.ofNat)) 256 = true := by cases cls <;> kernel_rfl
theorem sg_eq (cls : Bool) (b : UInt8) : sg cls b = (sgn cls b.toNat).map UInt8.ofNat := by
  unfold sg sgnB CE.bytesOf; rfl
theorem sg_ok (cls : Bool) (b : UInt8) : (∀ x ∈ sg cls b, low x = true) ∧ ∀ p, allq (endQ cls) p (sg cls b) = true := by
  have h := below_ok (signs_ok cls) b.toNat (UInt8.toNat_lt _)
  rw [← sg_eq] at h
  unfold okS at h
  rw [Bool.and_eq_true] at h
  refine ⟨fun x hx => List.all_eq_true.1 h.1 x hx, fun p => ?_⟩
  have h2 := h.2
  cases hs : sg cls b with
  | nil => rfl
  | cons x r =>
    rw [hs] at h2
    have h2 : (x != endQ cls && allq (endQ cls) x r) = true := h2
    rw [Bool.and_eq_true] at h2
    rw [allq, h2.1, h2.2]; rfl
theorem runL_ok (p : UInt8 × UInt8) : (∀ x ∈ runL p, low x = true) ∧ ∀ c, allq 93 c (runL p) = true := by
  obtain ⟨a1, a2⟩ := sg_ok true p.1
  obtain ⟨b1, b2⟩ := sg_ok true p.2
  have m : ∀ b : Bool, (∀ x ∈ (if b then [(45 : UInt8)] else []), low x = true) ∧ ∀ c, allq 93 c (if b then [45] else []) = true := fun b => by
    cases b
    · exact ⟨fun x hx => by simp at hx, fun c => rfl⟩
    · exact ⟨fun x hx => by simp at hx; subst hx; rfl, fun c => rfl⟩
  have e : ∀ b : Bool, (∀ x ∈ (if b then sg true p.2 else []), low x = true) ∧ ∀ c, allq 93 c (if b then sg true p.2 else []) = true := fun b => by
    cases b
    · exact ⟨fun x hx => by simp at hx, fun c => rfl⟩
    · exact ⟨fun x hx => b1 x (by simpa using hx), fun c => b2 c⟩
  unfold runL
  refine ⟨fun x hx => ?_, fun c => ?_⟩
  · rcases List.mem_append.1 hx with hx | hx
    · rcases List.mem_append.1 hx with hx | hx
      · exact a1 x hx
      · exact (m _).1 x hx
    · exact (e _).1 x hx
  · exact allq_append 93 c _ _ (allq_append 93 c _ _ (a2 c) (m _).2) (e _).2

/-- A text that is plain. -/
structure Fine (t : ByteArray) : Prop where
  len : 2 ≤ t.size ∨ t = ⟨#[46]⟩
  small : t.size ≤ 100000
  low : ∀ i (h : i < t.size), 32 ≤ t[i].toNat ∧ t[i].toNat ≤ 126
  inner : ∀ i (h : i + 1 + 1 < t.size), (t[0].toNat = 34 ∧ (t[i + 1].toNat = 34 → t[i].toNat = 92)) ∨ (t[0].toNat ≠ 34 ∧ (t[i + 1].toNat = 93 → t[i].toNat = 92))

theorem fine_of (cls : Bool) (f : UInt8) (body : List UInt8) (hf : f = if cls then 91 else 34) (hs : body.length ≤ 90000) (hl : ∀ x ∈ body, Go.Proofs.YtjaklcmadkpmdaaDoor.low x = true) (hq : ∀ p, allq (endQ cls) p body = true) : Fine ⟨([f] ++ body ++ [endQ cls]).toArray⟩ := by
  have hsz : (⟨([f] ++ body ++ [endQ cls]).toArray⟩ : ByteArray).size = body.length + 2 := by
    show ([f] ++ body ++ [endQ cls]).toArray.size = _
    simp
  have hat : ∀ i (h : i < (⟨([f] ++ body ++ [endQ cls]).toArray⟩ : ByteArray).size), ([f] ++ body ++ [endQ cls])[i]? = some ((⟨([f] ++ body ++ [endQ cls]).toArray⟩ : ByteArray)[i]) := fun i h => by
    have h' : i < ([f] ++ body ++ [endQ cls]).length := by rw [hsz] at h; simp; omega
    rw [List.getElem?_eq_getElem h']; rfl
  have hbody : ∀ i, i < body.length → ([f] ++ body ++ [endQ cls])[i + 1]? = body[i]? := fun i h => by
    rw [List.append_assoc, List.singleton_append, List.getElem?_cons_succ, List.getElem?_append_left h]
  refine ⟨.inl (by omega), by omega, fun i h => ?_, fun i h => ?_⟩
  · have hm := List.mem_of_getElem? (hat i h)
    have hlow : Go.Proofs.YtjaklcmadkpmdaaDoor.low ((⟨([f] ++ body ++ [endQ cls]).toArray⟩ : ByteArray)[i]) = true := by
      rcases List.mem_append.1 hm with hm | hm
      · rcases List.mem_append.1 hm with hm | hm
        · rw [List.mem_singleton.1 hm, hf]; cases cls <;> rfl
        · exact hl _ hm
      · rw [List.mem_singleton.1 hm]; cases cls <;> rfl
    unfold Go.Proofs.YtjaklcmadkpmdaaDoor.low at hlow
    simpa using hlow
  · have h0 : (⟨([f] ++ body ++ [endQ cls]).toArray⟩ : ByteArray)[0]'(by omega) = f := by
      have := hat 0 (by omega)
      simpa using this.symm
    have hb : i < body.length := by omega
    have key : (⟨([f] ++ body ++ [endQ cls]).toArray⟩ : ByteArray)[i + 1]'(by omega) = endQ cls → (⟨([f] ++ body ++ [endQ cls]).toArray⟩ : ByteArray)[i]'(by omega) = 92 := fun he => by
      have h1 := hat (i + 1) (by omega)
      rw [hbody i hb, he] at h1
      have h2 := allq_at (endQ cls) f body (hq f) i h1
      have h3 := hat i (by omega)
      have h4 : ([f] ++ body ++ [endQ cls])[i]? = (f :: body)[i]? := by
        rw [List.append_assoc, List.singleton_append]
        cases i with
        | zero => rfl
        | succ j => rw [List.getElem?_cons_succ, List.getElem?_cons_succ, List.getElem?_append_left (by omega)]
      rw [h4, h2] at h3
      exact (Option.some.inj h3).symm
    have nat : ∀ (a : UInt8) (n : Nat), n < 256 → a.toNat = n → a = UInt8.ofNat n := fun a n hn h => by
      rw [← h]; simp
    cases cls with
    | false =>
      left
      refine ⟨by rw [h0, hf]; rfl, fun h34 => ?_⟩
      rw [key (nat _ 34 (by decide) h34)]; rfl
    | true =>
      right
      refine ⟨by rw [h0, hf]; decide, fun h93 => ?_⟩
      rw [key (nat _ 93 (by decide) h93)]; rfl

theorem fine_lit (s : ByteArray) (hs : s.size ≤ 5000) : Fine ⟨(litL s).toArray⟩ := by
  have e : litL s = [34] ++ (s.data.toList.take s.size).flatMap (sg false) ++ [endQ false] := rfl
  rw [e]
  refine fine_of false 34 _ rfl ?_ (fun x hx => ?_) (allq_flat _ _ (fun b p => (sg_ok false b).2 p) _)
  · have := litP_len s s.size (Nat.le_refl _)
    unfold litP at this
    rw [List.length_append] at this
    omega
  · obtain ⟨b, _, hb⟩ := List.mem_flatMap.1 hx
    exact (sg_ok false b).1 x hb
theorem fine_cls (s : S4) : Fine ⟨(clsL s).toArray⟩ := by
  unfold clsL
  split
  · refine ⟨.inr rfl, by decide, fun i h => ?_, fun i h => ?_⟩
    · have h : i < 1 := h
      obtain rfl : i = 0 := by omega
      exact (show 32 ≤ (46 : UInt8).toNat ∧ (46 : UInt8).toNat ≤ 126 by decide)
    · have h : i + 1 + 1 < 1 := h
      omega
  · have e : clsP (rs (lstB s)) (rs (lstB s)).length ++ [93] = [91] ++ ((rs (lstB s)).take (rs (lstB s)).length).flatMap runL ++ [endQ true] := rfl
    rw [e]
    refine fine_of true 91 _ rfl ?_ (fun x hx => ?_) (allq_flat _ _ (fun p c => (runL_ok p).2 c) _)
    · have h1 := clsP_len (rs (lstB s)) _ (Nat.le_refl _)
      have h2 := rs256 s
      unfold clsP at h1
      rw [List.length_append] at h1
      omega
    · obtain ⟨b, _, hb⟩ := List.mem_flatMap.1 hx
      exact (runL_ok b).1 x hb

/-- What Class tells of any set. -/
theorem class_any {W0 w : World} (hI : Inv W0) (hb0 : Below W0.heap.size W0 w) (s : S4) (hs : s.ok) :
    Calls Tryd.prog 13 #[s.v] w fun e w' => e = .returned (.string ⟨(clsL s).toArray⟩) ∧ Below w.heap.size w w' := by
  unfold clsL
  cases h : same4 s S4.nil.not with
  | true => rw [if_pos rfl]; exact class_all s h
  | false => rw [if_neg (by simp)]; exact class_rest hI hb0 s hs h
end Go.Proofs.YtjaklcmadkpmdaaDoor
end
