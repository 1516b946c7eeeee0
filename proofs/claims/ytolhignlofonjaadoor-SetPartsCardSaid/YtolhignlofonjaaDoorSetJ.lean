/- The document's own Of and List of sets: for every input. -/
import Derived.Test.YtolhignlofonjaaDoorSetH
namespace Go.Proofs.YtolhignlofonjaaDoor
open Go.RowKit Go.Shelf

set_option maxHeartbeats 1000000 in
theorem rof_any (s : ByteArray) (hs : s.size ≤ maxLen) (w : World) :
    Calls Tryd.prog 9 #[.string s] w fun e w' => e = .returned (S4.nil.ofL (s.data.toList.map UInt8.toNat)).v ∧ Below w.heap.size w w' := by
  unfold maxLen at hs
  have hlen : s.data.toList.length = s.size := rfl
  have HL := Lib.hid hlen
  clear hlen
  go_enter Tryd.func9, Tryd.ntmps9
  go_wp2
  go_loopw [4] (fun i wr => ∃ (k : Nat) (t : S4), k ≤ s.size ∧ i = .int .i64 k ∧ t.ok ∧ t = S4.nil.ofL ((s.data.toList.map UInt8.toNat).take k) ∧
      Box4 wr (w.heap.size + 1) t ∧ Box4 wr w.heap.size S4.nil ∧ Below w.heap.size w wr)
    (fun i _ => s.size - (intOf i).toNat)
  case atStart => 
    refine ⟨0, S4.nil, Nat.zero_le _, rfl, S4.ok_nil, rfl, ?_, ?_, ?_⟩
    · have h := Box4.new (w.alloc (.cells #[.int .u64 0, .int .u64 0, .int .u64 0, .int .u64 0] 24)) S4.nil
      rw [World.size_alloc] at h
      exact h
    · exact (Box4.new w S4.nil).alloc _
    · exact ((Below.refl _ w).alloc (Nat.le_refl _) _).alloc (by simp) _
  case round =>
    obtain ⟨k, t, hk, rfl, hok, ht, hX, hR, hB⟩ := hrel
    have HT := Lib.hid ht
    clear ht
    obtain ⟨c0, c1, c2, c3⟩ := hX.cells
    have hsz := hX.lt
    by_cases hlt : k < s.size
    · go_wp2
      go_still_tail 4, (by kernel_rfl)
      change wpList _ _ _ _ _ wr.drew
      go_wp2_with fail
      refine (rwith_any t hok s[k].toNat (UInt8.toNat_lt _) _).mono ?_
      rintro e w1 ⟨rfl, hb0⟩
      have hb : Below wr.heap.size wr w1 := ((Below.refl _ wr).drew).trans hb0
      clear hb0
      have hsz1 := hb.size
      have hX1 := hX.below hb hX.lt
      have hR1 := hR.below hb hR.lt
      obtain ⟨d0, d1, d2, d3⟩ := hX1.cells
      obtain ⟨f0, f1, f2, f3⟩ := hX1.free
      clear c0 c1 c2 c3
      go_wp2
      go_roundw
      case rel =>
        refine ⟨k + 1, t.wth s[k].toNat, by omega, by go_num, S4.ok_wth hok _, ?_, hX1.store _, ?_, ?_⟩
        · rw [take_snocU s k hlt, S4.ofL_snoc, ← HT.out]
        · exact (((hR1.other (by simp) _).other (by simp) _).other (by simp) _).other (by simp) _
        · exact ((((hB.trans (hb.mono (by omega))).setCell (by simp) _).setCell (by simp) _).setCell (by simp) _).setCell (by simp) _
      case measure => simp [intOf]; omega
    · obtain ⟨r0, r1, r2, r3⟩ := hR.cells
      obtain ⟨f0, f1, f2, f3⟩ := hR.free
      go_wp2
      refine Box4.result (b := w.heap.size) Tryd.results9 rfl rfl (hR.store t) ⟨?_, ?_⟩
      · obtain rfl : k = s.size := by omega
        rw [HT.out, List.take_of_length_le (by simp)]
      · exact (((hB.setCell (Nat.le_refl _) _).setCell (Nat.le_refl _) _).setCell (Nat.le_refl _) _).setCell (Nat.le_refl _) _

set_option maxRecDepth 100000 in
set_option maxHeartbeats 4000000 in
theorem rrange_fl (a b : Nat) (ha : a < 256) (hb : b < 256) (w : World) :
    Calls Tryd.prog 11 #[.int .u8 a, .int .u8 b] w fun e w' => e = .returned (fl (fun n => decide (a ≤ n) && decide (n ≤ b)) 256).v ∧ Below w.heap.size w w' := by
  obtain ⟨P, hP⟩ : ∃ P : Nat → Bool, P = fun n => decide (a ≤ n) && decide (n ≤ b) := ⟨_, rfl⟩
  rw [← hP]
  have hPa : ∀ n, P n = (decide (a ≤ n) && decide (n ≤ b)) := fun n => by rw [hP]
  have HP := Lib.hid hPa
  clear hP hPa
  go_enter Tryd.func11, Tryd.ntmps11
  go_wp2_with fail
  have hbr := Box4.new w S4.nil
  have hbo := Box4.new (w.alloc (.cells #[.int .u64 0, .int .u64 0, .int .u64 0, .int .u64 0] 24)) S4.nil
  rw [World.size_alloc] at hbo
  have hbr : Box4 _ _ S4.nil := Box4.alloc hbr (.cells #[.int .u64 0, .int .u64 0, .int .u64 0, .int .u64 0] 24)
  have hB : Below w.heap.size w ((w.alloc (.cells #[.int .u64 0, .int .u64 0, .int .u64 0, .int .u64 0] 24)).alloc (.cells #[.int .u64 0, .int .u64 0, .int .u64 0, .int .u64 0] 24)) := ((Below.refl _ w).alloc (Nat.le_refl _) _).alloc (by simp) _
  go_loopw [6] (fun i wr => ∃ k : Nat, k ≤ 256 ∧ i = .int .i64 k ∧ Box4 wr w.heap.size S4.nil ∧ Box4 wr (w.heap.size + 1) (fl P k) ∧ Below w.heap.size w wr)
    (fun i _ => 256 - (intOf i).toNat)
  case atStart => exact ⟨0, by omega, rfl, hbr, hbo, hB⟩
  case round =>
    clear hbr hbo hB
    obtain ⟨k, hk, rfl, hR, hO, hB⟩ := hrel
    by_cases hlt : k < 256
    · obtain ⟨o0, o1, o2, o3⟩ := hO.cells
      have hyes := Lib.hid (fl_yes P k)
      have hno := Lib.hid (fl_no P k)
      have hPk := HP.out k
      by_cases h1 : a ≤ k
      · by_cases h2 : k ≤ b
        · rw [decide_eq_true h1, decide_eq_true h2] at hPk
          have HPk := Lib.hid hPk
          clear hPk
          go_wp2_with fail
          refine (rwith_any (fl P k) (ok_fl P k) k hlt _).mono ?_
          rintro e w1 ⟨rfl, hb1⟩
          have hR1 := hR.below hb1 hR.lt
          have hO1 := hO.below hb1 hO.lt
          have hB1 := bstep hB hb1
          clear hR hO hB hb1 o0 o1 o2 o3
          obtain ⟨o0, o1, o2, o3⟩ := hO1.cells
          obtain ⟨f0, f1, f2, f3⟩ := hO1.free
          go_wp2
          go_roundw
          case rel =>
            refine ⟨k + 1, by omega, by go_num, ?_, ?_, ?_⟩
            · exact (((hR1.other (by simp) _).other (by simp) _).other (by simp) _).other (by simp) _
            · rw [hyes.out (HPk.out.trans rfl)]; exact hO1.store _
            · exact (((hB1.setCell (by simp) _).setCell (by simp) _).setCell (by simp) _).setCell (by simp) _
          case measure => simp [intOf]; omega
        · rw [decide_eq_true h1, decide_eq_false h2] at hPk
          have HPk := Lib.hid hPk
          clear hPk
          go_wp2
          go_roundw
          case rel => exact ⟨k + 1, by omega, by go_num, hR, by rw [hno.out (HPk.out.trans rfl)]; exact hO, hB⟩
          case measure => simp [intOf]; omega
      · rw [decide_eq_false h1] at hPk
        have HPk := Lib.hid (hPk.trans (Bool.false_and _))
        clear hPk
        go_wp2
        go_roundw
        case rel => exact ⟨k + 1, by omega, by go_num, hR, by rw [hno.out HPk.out]; exact hO, hB⟩
        case measure => simp [intOf]; omega
    · obtain ⟨o0, o1, o2, o3⟩ := hO.cells
      obtain ⟨r0, r1, r2, r3⟩ := hR.cells
      obtain ⟨f0, f1, f2, f3⟩ := hR.free
      obtain rfl : k = 256 := by omega
      go_wp2
      refine Box4.result (b := w.heap.size) Tryd.results11 rfl rfl (hR.store (fl P 256)) ⟨rfl, ?_⟩
      exact (((hB.setCell (by simp) _).setCell (by simp) _).setCell (by simp) _).setCell (by simp) _
end Go.Proofs.YtolhignlofonjaaDoor
