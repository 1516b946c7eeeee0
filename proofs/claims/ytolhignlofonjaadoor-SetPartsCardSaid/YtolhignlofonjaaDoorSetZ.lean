/- The document's own Runs, Same, Compare: for every set. -/
import Derived.Test.YtolhignlofonjaaDoorSetY
import Derived.Test.YtolhignlofonjaaDoorSetV
namespace Go.Proofs.YtolhignlofonjaaDoor
open Go.RowKit Go.Shelf

theorem byte_of {p : UInt8 × UInt8} {n : Nat} (h : p.1.toNat = n) : byteV p.1 = .int .u8 n := by unfold byteV; rw [h]

theorem runs_take {s : S4} {j : Nat} {p : UInt8 × UInt8} (hp : (runsOf s)[j]? = some p) : runsV ((runsOf s).take (j + 1)) = runsV ((runsOf s).take j) ++ [.int .u8 p.1.toNat, .int .u8 p.2.toNat] := by
  have hlt := (List.getElem?_eq_some_iff.1 hp).1
  have e : (runsOf s)[j] = p := (List.getElem?_eq_some_iff.1 hp).2
  rw [List.take_succ_eq_append_getElem hlt, runsV_append, e]
  rfl

set_option maxRecDepth 100000 in
set_option maxHeartbeats 4000000 in
theorem rruns_any (s : S4) (hs : s.ok) (w : World) :
    Calls Tryd.prog 20 #[s.v] w fun e w' => ∃ v, (e = .returned v ∧ w'.ownsRow (w.heap.size + 1) 37 2 v (runsOf s).length (runsV (runsOf s))) ∧ Below w.heap.size w w' := by
  obtain ⟨i0, hi, hz0, hz1, hz2⟩ := info_parts info_run
  go_enter Tryd.func20, Tryd.ntmps20
  go_wp2_with fail
  have hbs := Box4.new w s
  have hB : Below w.heap.size w (w.alloc (.cells #[.int .u64 s.a, .int .u64 s.b, .int .u64 s.c, .int .u64 s.d] 24)) := (Below.refl _ w).alloc (Nat.le_refl _) _
  go_loopw [3, 4] (fun v i wr => ∃ k j : Nat, k ≤ 256 ∧ i = .int .i64 k ∧ Idx s j k ∧ wr.ownsRow (w.heap.size + 1) 37 2 v j (runsV ((runsOf s).take j)) ∧ Box4 wr w.heap.size s ∧ Below w.heap.size w wr)
    (fun _ i _ => 256 - (intOf i).toNat)
  case atStart => exact ⟨0, 0, by omega, rfl, Idx.zero s, World.ownsRow_nil _ _ _ _, hbs, hB⟩
  case round =>
    clear hbs hB
    obtain ⟨k, j, hk, rfl, hidx, hrow, hS, hB⟩ := hrel
    by_cases hlt : k < 256
    · obtain ⟨x0, x1, x2, x3⟩ := hS.cells
      have HI := Lib.hid hidx
      clear hidx
      go_wp2_with fail
      refine (rhas_any s hs k hlt _).mono ?_
      rintro e w1 ⟨rfl, hb⟩
      have hrow1 := ownBelow hrow hb
      have hS1 := hS.below hb hS.lt
      have hB1 := bstep hB hb
      clear hrow hS hB hb x0 x1 x2 x3
      obtain ⟨x0, x1, x2, x3⟩ := hS1.cells
      cases h1 : s.has k with
      | false =>
        go_wp2_with fail
        go_roundw
        case rel => exact ⟨k + 1, j, by omega, by go_num, HI.out.no (.inl h1), hrow1, hS1, hB1⟩
        case measure => first | (simp [intOf]; done) | (simp [intOf]; omega)
      | true =>
        have hcase : (k = 0) ∨ (0 < k ∧ s.has (k - 1) = true) ∨ (0 < k ∧ s.has (k - 1) = false) := by
          rcases Nat.eq_zero_or_pos k with h | h
          · exact .inl h
          · cases h2 : s.has (k - 1)
            · exact .inr (.inr ⟨h, rfl⟩)
            · exact .inr (.inl ⟨h, rfl⟩)
        rcases hcase with h0 | ⟨h0, h2⟩ | ⟨h0, h2⟩
        · subst h0
          have hd : decide ((0 : Int) < ((0 : Nat) : Int)) = false := by decide
          obtain ⟨p, hp, hpk, hnx⟩ := HI.out.yes hlt h1 (.inl rfl)
          have hkp : 0 ≤ p.2.toNat := Nat.zero_le _
          have hp := Lib.hid hp
          have hnx := Lib.hid hnx
          have h256 := p.2.toNat_lt
          have hj256 : j ≤ 256 := by have := HI.out.1; have := rs_len (lstB s); have := lst_le s; have := lstB_len s; unfold runsOf at *; omega
          go_wp2_with fail
          go_loopw [5] (fun t wr => ∃ q : Nat, 0 ≤ q ∧ q ≤ p.2.toNat ∧ t = .int .i64 q ∧ wr.ownsRow (w.heap.size + 1) 37 2 u3 j (runsV ((runsOf s).take j)) ∧ Box4 wr w.heap.size s ∧ Below w.heap.size w wr)
            (fun t _ => 255 - (intOf t).toNat)
          case atStart => exact ⟨0, Nat.le_refl _, hkp, rfl, hrow1, hS1, hB1⟩
          case round =>
            clear hrow1 hS1 hB1 x0 x1 x2 x3
            obtain ⟨q, hkq, hqp, rfl, hrow2, hS2, hB2⟩ := hrel
            obtain ⟨y0, y1, y2, y3⟩ := hS2.cells
            rcases Nat.lt_or_ge q p.2.toNat with hq | hq
            · have hq1 : s.has (q + 1) = true := run_has hp.out (by omega) (by omega)
              have hd5 : decide ((q : Int) < 255) = true := by simp; omega
              go_wp2_with fail
              rw [show (q : Int) + 1 = ((q + 1 : Nat) : Int) by omega]
              refine (rhas_any s hs (q + 1) (by omega) _).mono ?_
              rintro e w3 ⟨rfl, hb3⟩
              rw [hq1]
              go_wp2_with fail
              go_roundw
              case rel => exact ⟨q + 1, by omega, by omega, by go_num, ownBelow hrow2 hb3, hS2.below hb3 hS2.lt, bstep hB2 hb3⟩
              case measure => first | (simp [intOf]; done) | (simp [intOf]; omega)
            · have hqe : p.2.toNat = q := by omega
              rcases Nat.lt_or_ge q 255 with h255 | h255
              · have hq1 : s.has (q + 1) = false := by have := gap_after hp.out (by omega); rw [hqe] at this; exact this
                have hd5 : decide ((q : Int) < 255) = true := by simp; omega
                go_wp2_with fail
                rw [show (q : Int) + 1 = ((q + 1 : Nat) : Int) by omega]
                refine (rhas_any s hs (q + 1) (by omega) _).mono ?_
                rintro e w3 ⟨rfl, hb3⟩
                rw [hq1]
                have hrow3 := ownBelow hrow2 hb3
                have hS3 := hS2.below hb3 hS2.lt
                have hB3 := bstep hB2 hb3
                have hlt3 := hS3.lt
                clear hrow2 hS2 hB2 y0 y1 y2 y3
                go_wp2_with (at_builtin; refine wpList_append_own _ rfl _ _ 34 rfl (w.heap.size + 1) 37 i0 (.agg #[.int .u8 0, .int .u8 0]) 2 2 Tryd.underlying34 hi hz0 hz1 hz2 rfl (by decide) _ _ _ rfl (hrow3.alloc _) ⟨World.heap _ |>.size, 0, none⟩ 1 1 [.int .u8 0, .int .u8 q] rfl rfl (cell_two_new _ _ _ _) (fun x hx => by simp at hx; rcases hx with rfl | rfl <;> rfl) (by unfold maxLen; omega) (by omega) (by simp; omega) ?_; intro v' w4 hown' hgrow _)
                go_roundw
                case rel =>
                  have hS4 := (hS3.alloc _).kept hgrow (ownNot hrow3 (by omega))
                  have hB4 := (hB3.alloc (by omega) _).grown hgrow (by simp; omega) (fun j hj => Nat.le_of_succ_le (ownAt hrow3 j hj))
                  refine ⟨0 + 1, j + 1, by omega, by go_num, hnx.out, ?_, hS4, hB4⟩
                  rw [runs_take hp.out, hpk, hqe]
                  exact hown'
                case measure => first | (simp [intOf]; done) | (simp [intOf]; omega)
              · have hd5 : decide ((q : Int) < 255) = false := by simp; omega
                have hrow3 := hrow2
                have hS3 := hS2
                have hB3 := hB2
                have hlt3 := hS3.lt
                skip
                clear hrow2 hS2 hB2 y0 y1 y2 y3
                go_wp2_with (at_builtin; refine wpList_append_own _ rfl _ _ 34 rfl (w.heap.size + 1) 37 i0 (.agg #[.int .u8 0, .int .u8 0]) 2 2 Tryd.underlying34 hi hz0 hz1 hz2 rfl (by decide) _ _ _ rfl (hrow3.alloc _) ⟨World.heap _ |>.size, 0, none⟩ 1 1 [.int .u8 0, .int .u8 q] rfl rfl (cell_two_new _ _ _ _) (fun x hx => by simp at hx; rcases hx with rfl | rfl <;> rfl) (by unfold maxLen; omega) (by omega) (by simp; omega) ?_; intro v' w4 hown' hgrow _)
                go_roundw
                case rel =>
                  have hS4 := (hS3.alloc _).kept hgrow (ownNot hrow3 (by omega))
                  have hB4 := (hB3.alloc (by omega) _).grown hgrow (by simp; omega) (fun j hj => Nat.le_of_succ_le (ownAt hrow3 j hj))
                  refine ⟨0 + 1, j + 1, by omega, by go_num, hnx.out, ?_, hS4, hB4⟩
                  rw [runs_take hp.out, hpk, hqe]
                  exact hown'
                case measure => first | (simp [intOf]; done) | (simp [intOf]; omega)
        · have hd : decide ((0 : Int) < (k : Int)) = true := by simp; omega
          go_wp2_with fail
          rw [show (k : Int) - 1 = ((k - 1 : Nat) : Int) by omega]
          refine (rhas_any s hs (k - 1) (by omega) _).mono ?_
          rintro e w2 ⟨rfl, hb2⟩
          rw [h2]
          go_wp2_with fail
          go_roundw
          case rel => exact ⟨k + 1, j, by omega, by go_num, HI.out.no (.inr ⟨h0, h2⟩), ownBelow hrow1 hb2, hS1.below hb2 hS1.lt, bstep hB1 hb2⟩
          case measure => first | (simp [intOf]; done) | (simp [intOf]; omega)
        · have hd : decide ((0 : Int) < (k : Int)) = true := by simp; omega
          obtain ⟨p, hp, hpk, hnx⟩ := HI.out.yes hlt h1 (.inr h2)
          have hkp : k ≤ p.2.toNat := by have := run_le hp; omega
          have hp := Lib.hid hp
          have hnx := Lib.hid hnx
          have h256 := p.2.toNat_lt
          have hj256 : j ≤ 256 := by have := HI.out.1; have := rs_len (lstB s); have := lst_le s; have := lstB_len s; unfold runsOf at *; omega
          go_wp2_with fail
          rw [show (k : Int) - 1 = ((k - 1 : Nat) : Int) by omega]
          refine (rhas_any s hs (k - 1) (by omega) _).mono ?_
          rintro e w2 ⟨rfl, hb2⟩
          rw [h2]
          have hrowb := ownBelow hrow1 hb2
          have hSb := hS1.below hb2 hS1.lt
          have hBb := bstep hB1 hb2
          clear hrow1 hS1 hB1 x0 x1 x2 x3 hb2
          go_wp2_with fail
          go_loopw [5] (fun t wr => ∃ q : Nat, k ≤ q ∧ q ≤ p.2.toNat ∧ t = .int .i64 q ∧ wr.ownsRow (w.heap.size + 1) 37 2 u3 j (runsV ((runsOf s).take j)) ∧ Box4 wr w.heap.size s ∧ Below w.heap.size w wr)
            (fun t _ => 255 - (intOf t).toNat)
          case atStart => exact ⟨k, Nat.le_refl _, hkp, rfl, hrowb, hSb, hBb⟩
          case round =>
            clear hrowb hSb hBb
            obtain ⟨q, hkq, hqp, rfl, hrow2, hS2, hB2⟩ := hrel
            obtain ⟨y0, y1, y2, y3⟩ := hS2.cells
            rcases Nat.lt_or_ge q p.2.toNat with hq | hq
            · have hq1 : s.has (q + 1) = true := run_has hp.out (by omega) (by omega)
              have hd5 : decide ((q : Int) < 255) = true := by simp; omega
              go_wp2_with fail
              rw [show (q : Int) + 1 = ((q + 1 : Nat) : Int) by omega]
              refine (rhas_any s hs (q + 1) (by omega) _).mono ?_
              rintro e w3 ⟨rfl, hb3⟩
              rw [hq1]
              go_wp2_with fail
              go_roundw
              case rel => exact ⟨q + 1, by omega, by omega, by go_num, ownBelow hrow2 hb3, hS2.below hb3 hS2.lt, bstep hB2 hb3⟩
              case measure => first | (simp [intOf]; done) | (simp [intOf]; omega)
            · have hqe : p.2.toNat = q := by omega
              rcases Nat.lt_or_ge q 255 with h255 | h255
              · have hq1 : s.has (q + 1) = false := by have := gap_after hp.out (by omega); rw [hqe] at this; exact this
                have hd5 : decide ((q : Int) < 255) = true := by simp; omega
                go_wp2_with fail
                rw [show (q : Int) + 1 = ((q + 1 : Nat) : Int) by omega]
                refine (rhas_any s hs (q + 1) (by omega) _).mono ?_
                rintro e w3 ⟨rfl, hb3⟩
                rw [hq1]
                have hrow3 := ownBelow hrow2 hb3
                have hS3 := hS2.below hb3 hS2.lt
                have hB3 := bstep hB2 hb3
                have hlt3 := hS3.lt
                clear hrow2 hS2 hB2 y0 y1 y2 y3
                go_wp2_with (at_builtin; refine wpList_append_own _ rfl _ _ 34 rfl (w.heap.size + 1) 37 i0 (.agg #[.int .u8 0, .int .u8 0]) 2 2 Tryd.underlying34 hi hz0 hz1 hz2 rfl (by decide) _ _ _ rfl (hrow3.alloc _) ⟨World.heap _ |>.size, 0, none⟩ 1 1 [.int .u8 k, .int .u8 q] rfl rfl (cell_two_new _ _ _ _) (fun x hx => by simp at hx; rcases hx with rfl | rfl <;> rfl) (by unfold maxLen; omega) (by omega) (by simp; omega) ?_; intro v' w4 hown' hgrow _)
                go_roundw
                case rel =>
                  have hS4 := (hS3.alloc _).kept hgrow (ownNot hrow3 (by omega))
                  have hB4 := (hB3.alloc (by omega) _).grown hgrow (by simp; omega) (fun j hj => Nat.le_of_succ_le (ownAt hrow3 j hj))
                  refine ⟨k + 1, j + 1, by omega, by go_num, hnx.out, ?_, hS4, hB4⟩
                  rw [runs_take hp.out, hpk, hqe]
                  exact hown'
                case measure => first | (simp [intOf]; done) | (simp [intOf]; omega)
              · have hd5 : decide ((q : Int) < 255) = false := by simp; omega
                have hrow3 := hrow2
                have hS3 := hS2
                have hB3 := hB2
                have hlt3 := hS3.lt
                skip
                clear hrow2 hS2 hB2 y0 y1 y2 y3
                go_wp2_with (at_builtin; refine wpList_append_own _ rfl _ _ 34 rfl (w.heap.size + 1) 37 i0 (.agg #[.int .u8 0, .int .u8 0]) 2 2 Tryd.underlying34 hi hz0 hz1 hz2 rfl (by decide) _ _ _ rfl (hrow3.alloc _) ⟨World.heap _ |>.size, 0, none⟩ 1 1 [.int .u8 k, .int .u8 q] rfl rfl (cell_two_new _ _ _ _) (fun x hx => by simp at hx; rcases hx with rfl | rfl <;> rfl) (by unfold maxLen; omega) (by omega) (by simp; omega) ?_; intro v' w4 hown' hgrow _)
                go_roundw
                case rel =>
                  have hS4 := (hS3.alloc _).kept hgrow (ownNot hrow3 (by omega))
                  have hB4 := (hB3.alloc (by omega) _).grown hgrow (by simp; omega) (fun j hj => Nat.le_of_succ_le (ownAt hrow3 j hj))
                  refine ⟨k + 1, j + 1, by omega, by go_num, hnx.out, ?_, hS4, hB4⟩
                  rw [runs_take hp.out, hpk, hqe]
                  exact hown'
                case measure => first | (simp [intOf]; done) | (simp [intOf]; omega)
    · obtain rfl : k = 256 := by omega
      have hall := hidx.all
      have hle : j = (runsOf s).length := by
        have := congrArg List.length hall
        rw [List.length_take] at this
        have := hidx.1
        omega
      rw [hall, hle] at hrow
      go_wp2
      go_ret
      exact ⟨_, ⟨rfl, hrow⟩, hB⟩
end Go.Proofs.YtolhignlofonjaaDoor
