/- The walk of QuotePlain. -/
import Derived.Test.YtjaklcmadkpmdaaDoorQuoF
namespace Go.Proofs.YtjaklcmadkpmdaaDoor
open Go Go.RowKit Go.Shelf
set_option linter.unusedSimpArgs false
set_option linter.unusedVariables false

set_option maxRecDepth 100000 in
set_option maxHeartbeats 8000000 in
theorem plain_walk (s : ByteArray) (x : S4) (hx : x.ok) (W : World) (hI : Inv W) :
    Calls Tryd.prog 6 #[.string s, x.v] W fun e w' => e = .returned (.bool true) ∧ Below W.heap.size W w' := by
  have HI := Lib.hid hI
  clear hI
  have hbs := Box4.new W x
  have hN : Below W.heap.size W (W.alloc (.cells #[.int .u64 x.a, .int .u64 x.b, .int .u64 x.c, .int .u64 x.d] 31)) := (Below.refl _ W).alloc (Nat.le_refl _) _
  by_cases hl : s.size ≤ 5000
  · obtain ⟨A, hA⟩ : ∃ A : ByteArray, A = ⟨(litL s).toArray⟩ := ⟨_, rfl⟩
    obtain ⟨C, hC⟩ : ∃ C : ByteArray, C = ⟨(clsL x).toArray⟩ := ⟨_, rfl⟩
    have FA := Lib.hid (show Fine A by rw [hA]; exact fine_lit s hl)
    have FC := Lib.hid (show Fine C by rw [hC]; exact fine_cls x)
    have HL := Lib.hid (show ∀ w, Below W.heap.size W w → Calls Tryd.prog 9 #[.string s] w fun e w' => e = .returned (.string A) ∧ Below w.heap.size w w' from fun w hb => by rw [hA]; exact literal_any HI.out hb s hl)
    have HC := Lib.hid (show ∀ w, Below W.heap.size W w → Calls Tryd.prog 13 #[x.v] w fun e w' => e = .returned (.string C) ∧ Below w.heap.size w w' from fun w hb => by rw [hC]; exact class_any HI.out hb x hx)
    clear hA hC hx
    have hd : decide ((5000 : Int) < (s.size : Int)) = false := by simp; omega
    go_enter Tryd.func6, Tryd.ntmps6
    go_wp2_with (go_at_call 8; refine (awake_any HI.out hN).mono ?_; rintro e w1 ⟨rfl, hb1⟩; have hbs := hbs.below hb1 hbs.lt; have hN := bstep hN hb1; clear hb1; obtain ⟨x0, x1, x2, x3⟩ := hbs.cells)
    go_region_with (first
      | (go_at_call 9; refine (HL.out _ (by first | exact hN | exact hN.drew)).mono ?_; rintro e w2 ⟨rfl, hb2⟩; have hbs2 := (by first | exact hbs | exact hbs.drew : Box4 _ W.heap.size x).below hb2 hbs.lt; have hN2 := bstep (by first | exact hN | exact hN.drew) hb2; obtain ⟨y0, y1, y2, y3⟩ := hbs2.cells)
      | (go_at_call 13; refine (HC.out _ hN2).mono ?_; rintro e w3 ⟨rfl, hb3⟩; have hN3 := bstep hN2 hb3))
    all_goals
      try simp only [Act.put, List.getElem_toArray, List.getElem_cons_zero, List.getElem_cons_succ, List.setIfInBounds_toArray, List.set_cons_zero, List.set_cons_succ]
      have c0 : (w3.alloc (.cells #[.string A, .string C] 9)).cell? ⟨w3.heap.size, 0, none⟩ = some (.string A) := Lib.cell_of_heap (heap_alloc_new _ _) 0
      have c1 : (w3.alloc (.cells #[.string A, .string C] 9)).cell? ⟨w3.heap.size, 1, none⟩ = some (.string C) := Lib.cell_of_heap (heap_alloc_new _ _) 1
      have hN4 := hN3.alloc hN3.size (.cells #[.string A, .string C] 9)
      have HT := Lib.hid (show ∀ j : Nat, j < 2 → ∃ t : ByteArray, (w3.alloc (.cells #[.string A, .string C] 9)).cell? ⟨w3.heap.size, j, none⟩ = some (.string t) ∧ Fine t from fun j hj => by
        have : j = 0 ∨ j = 1 := by omega
        rcases this with rfl | rfl
        · exact ⟨A, c0, FA.out⟩
        · exact ⟨C, c1, FC.out⟩)
      have hN5 := Lib.hid hN4
      clear c0 c1 hN4 hN3 hb3 hN2 hN hbs hbs2 x0 x1 x2 x3 y0 y1 y2 y3 hb2 HL HC FA FC
      go_wp2_with fail
      go_loop [22] (fun i => ∃ j : Nat, j ≤ 2 ∧ i = .int .i64 j) (fun i => 2 - (intOf i).toNat)
      case atStart => exact ⟨0, by omega, rfl⟩
      case round =>
        obtain ⟨j, hj, rfl⟩ := hrel
        by_cases hj2 : j < 2
        · obtain ⟨t, ht, hF⟩ := HT.out j hj2
          have hjin : (j : Int) < 2 := by omega
          have F := Lib.hid hF
          rcases hF.len with hlen | hteq
          · have d1 : decide ((t.size : Int) < 1) = false := by simp; omega
            have d2 : ((t.size : Int) == 1) = false := by rw [beq_eq_false_iff_ne]; omega
            clear hF
            go_wp2_with fail
            go_loop [7] (fun i => ∃ k : Nat, k ≤ t.size ∧ i = .int .i64 k) (fun i => t.size - (intOf i).toNat)
            case atStart => exact ⟨0, by omega, rfl⟩
            case round =>
              obtain ⟨k, hk, rfl⟩ := hrel
              by_cases hlt : k < t.size
              · have hlow := F.out.low k hlt
                have a1 : decide ((t[k].toNat : Int) < 32) = false := by simp; omega
                have a2 : decide (126 < (t[k].toNat : Int)) = false := by simp; omega
                have a3 : ¬ ((t[k].toNat : Int) < 32) := by omega
                have a4 : ¬ (126 < (t[k].toNat : Int)) := by omega
                have h0 : 0 < t.size := by omega
                have hs1 := F.out.small
                have a5 : ((t.size : Int) - 1) = ((t.size - 1 : Nat) : Int) := by omega
                have a6 : IntKind.i64.wrap ((t.size : Int) - 1) = ((t.size - 1 : Nat) : Int) := by rw [a5]; exact IntWalk.i64_in _ (by omega)
                cases k with
                | zero =>
                  cases b0 : ((t[0].toNat : Int) == 34)
                  all_goals
                    go_wp2
                    go_round
                    case rel => exact ⟨1, by omega, by go_num⟩
                    case measure => simp [intOf]; omega
                | succ m =>
                  have hm : m < t.size := by omega
                  have g1 : (((m + 1 : Nat) : Int) - 1) = (m : Int) := by omega
                  have g2 : IntKind.i64.wrap (((m + 1 : Nat) : Int) - 1) = (m : Int) := by rw [g1]; exact IntWalk.i64_in _ (by omega)
                  have g3 : decide ((0 : Int) < ((m + 1 : Nat) : Int)) = true := by simp <;> omega
                  by_cases hend : m + 1 + 1 < t.size
                  · have g4 : decide (((m + 1 : Nat) : Int) < ((t.size - 1 : Nat) : Int)) = true := by simp; omega
                    rcases F.out.inner m hend with ⟨e0, e1⟩ | ⟨e0, e1⟩
                    · skip
                      by_cases p34 : t[m + 1].toNat = 34
                      · skip
                        have p92 := e1 p34
                        have c0 : ((t[0].toNat : Int) == 34) = true := by rw [beq_iff_eq]; omega
                        have c0n : ((t[0].toNat : Int) != 34) = false := by rw [bne_eq_false_iff_eq]; omega
                        have c1 : ((t[m + 1].toNat : Int) == 34) = true := by rw [beq_iff_eq]; omega
                        have c2 : ((t[m + 1].toNat : Int) == 93) = false := by rw [beq_eq_false_iff_ne]; omega
                        have c3 : ((t[m].toNat : Int) != 92) = false := by rw [bne_eq_false_iff_eq]; omega
                        go_wp2
                        go_round
                        case rel => exact ⟨m + 1 + 1, by omega, by go_num⟩
                        case measure => simp [intOf]; omega
                      · skip
                        by_cases p93 : t[m + 1].toNat = 93
                        · skip
                          have c0 : ((t[0].toNat : Int) == 34) = true := by rw [beq_iff_eq]; omega
                          have c0n : ((t[0].toNat : Int) != 34) = false := by rw [bne_eq_false_iff_eq]; omega
                          have c1 : ((t[m + 1].toNat : Int) == 34) = false := by rw [beq_eq_false_iff_ne]; omega
                          have c2 : ((t[m + 1].toNat : Int) == 93) = true := by rw [beq_iff_eq]; omega
                          go_wp2
                          go_round
                          case rel => exact ⟨m + 1 + 1, by omega, by go_num⟩
                          case measure => simp [intOf]; omega
                        · skip
                          have c0 : ((t[0].toNat : Int) == 34) = true := by rw [beq_iff_eq]; omega
                          have c0n : ((t[0].toNat : Int) != 34) = false := by rw [bne_eq_false_iff_eq]; omega
                          have c1 : ((t[m + 1].toNat : Int) == 34) = false := by rw [beq_eq_false_iff_ne]; omega
                          have c2 : ((t[m + 1].toNat : Int) == 93) = false := by rw [beq_eq_false_iff_ne]; omega
                          go_wp2
                          go_round
                          case rel => exact ⟨m + 1 + 1, by omega, by go_num⟩
                          case measure => simp [intOf]; omega
                    · skip
                      by_cases p93 : t[m + 1].toNat = 93
                      · skip
                        have p92 := e1 p93
                        have c0 : ((t[0].toNat : Int) == 34) = false := by rw [beq_eq_false_iff_ne]; omega
                        have c0n : ((t[0].toNat : Int) != 34) = true := by rw [bne_iff_ne]; omega
                        have c1 : ((t[m + 1].toNat : Int) == 34) = false := by rw [beq_eq_false_iff_ne]; omega
                        have c2 : ((t[m + 1].toNat : Int) == 93) = true := by rw [beq_iff_eq]; omega
                        have c3 : ((t[m].toNat : Int) != 92) = false := by rw [bne_eq_false_iff_eq]; omega
                        go_wp2
                        go_round
                        case rel => exact ⟨m + 1 + 1, by omega, by go_num⟩
                        case measure => simp [intOf]; omega
                      · skip
                        by_cases p34 : t[m + 1].toNat = 34
                        · skip
                          have c0 : ((t[0].toNat : Int) == 34) = false := by rw [beq_eq_false_iff_ne]; omega
                          have c0n : ((t[0].toNat : Int) != 34) = true := by rw [bne_iff_ne]; omega
                          have c1 : ((t[m + 1].toNat : Int) == 34) = true := by rw [beq_iff_eq]; omega
                          have c2 : ((t[m + 1].toNat : Int) == 93) = false := by rw [beq_eq_false_iff_ne]; omega
                          go_wp2
                          go_round
                          case rel => exact ⟨m + 1 + 1, by omega, by go_num⟩
                          case measure => simp [intOf]; omega
                        · skip
                          have c0 : ((t[0].toNat : Int) == 34) = false := by rw [beq_eq_false_iff_ne]; omega
                          have c0n : ((t[0].toNat : Int) != 34) = true := by rw [bne_iff_ne]; omega
                          have c1 : ((t[m + 1].toNat : Int) == 34) = false := by rw [beq_eq_false_iff_ne]; omega
                          have c2 : ((t[m + 1].toNat : Int) == 93) = false := by rw [beq_eq_false_iff_ne]; omega
                          go_wp2
                          go_round
                          case rel => exact ⟨m + 1 + 1, by omega, by go_num⟩
                          case measure => simp [intOf]; omega
                  · have g4 : decide (((m + 1 : Nat) : Int) < ((t.size - 1 : Nat) : Int)) = false := by simp; omega
                    by_cases p0 : t[0].toNat = 34
                    · skip
                      by_cases p34 : t[m + 1].toNat = 34
                      · skip
                        have c0 : ((t[0].toNat : Int) == 34) = true := by rw [beq_iff_eq]; omega
                        have c1 : ((t[m + 1].toNat : Int) == 34) = true := by rw [beq_iff_eq]; omega
                        go_wp2
                        go_round
                        case rel => exact ⟨m + 1 + 1, by omega, by go_num⟩
                        case measure => simp [intOf]; omega
                      · skip
                        have c0 : ((t[0].toNat : Int) == 34) = true := by rw [beq_iff_eq]; omega
                        have c1 : ((t[m + 1].toNat : Int) == 34) = false := by rw [beq_eq_false_iff_ne]; omega
                        go_wp2
                        go_round
                        case rel => exact ⟨m + 1 + 1, by omega, by go_num⟩
                        case measure => simp [intOf]; omega
                    · skip
                      have c0 : ((t[0].toNat : Int) == 34) = false := by rw [beq_eq_false_iff_ne]; omega
                      go_wp2
                      go_round
                      case rel => exact ⟨m + 1 + 1, by omega, by go_num⟩
                      case measure => simp [intOf]; omega
              · obtain rfl : k = t.size := by omega
                go_wp2
                go_round
                case rel => exact ⟨j + 1, by omega, by go_num⟩
                case measure => simp [intOf]; omega
          · have hz : t.size = 1 := by rw [hteq]; rfl
            have d1 : decide ((t.size : Int) < 1) = false := by simp; omega
            have d2 : ((t.size : Int) == 1) = true := by rw [beq_iff_eq]; omega
            have d3 : (t.toList == ByteArray.toList ⟨#[46]⟩) = true := by rw [hteq]; exact BEq.rfl
            have d4 : (t.toList == [46]) = true := by rw [hteq, ByteArray.toList_eq]; rfl
            clear hF hteq
            go_wp2_with fail
            go_loop [7] (fun i => ∃ k : Nat, k ≤ t.size ∧ i = .int .i64 k) (fun i => t.size - (intOf i).toNat)
            case atStart => exact ⟨0, by omega, rfl⟩
            case round =>
              obtain ⟨k, hk, rfl⟩ := hrel
              by_cases hlt : k < t.size
              · have hlow := F.out.low k hlt
                have a1 : decide ((t[k].toNat : Int) < 32) = false := by simp; omega
                have a2 : decide (126 < (t[k].toNat : Int)) = false := by simp; omega
                have a3 : ¬ ((t[k].toNat : Int) < 32) := by omega
                have a4 : ¬ (126 < (t[k].toNat : Int)) := by omega
                have h0 : 0 < t.size := by omega
                have hs1 := F.out.small
                have a5 : ((t.size : Int) - 1) = ((t.size - 1 : Nat) : Int) := by omega
                have a6 : IntKind.i64.wrap ((t.size : Int) - 1) = ((t.size - 1 : Nat) : Int) := by rw [a5]; exact IntWalk.i64_in _ (by omega)
                cases k with
                | zero =>
                  cases b0 : ((t[0].toNat : Int) == 34)
                  all_goals
                    go_wp2
                    go_round
                    case rel => exact ⟨1, by omega, by go_num⟩
                    case measure => simp [intOf]; omega
                | succ m => omega
              · obtain rfl : k = t.size := by omega
                go_wp2
                go_round
                case rel => exact ⟨j + 1, by omega, by go_num⟩
                case measure => simp [intOf]; omega
        · obtain rfl : j = 2 := by omega
          go_wp2
          go_ret
          first | exact ⟨rfl, hN5.out⟩ | exact ⟨rfl, hN5.out.drew⟩
  · have hd : decide ((5000 : Int) < (s.size : Int)) = true := by simp; omega
    go_enter Tryd.func6, Tryd.ntmps6
    go_wp2_with (go_at_call 8; refine (awake_any HI.out hN).mono ?_; rintro e w1 ⟨rfl, hb1⟩; have hN := bstep hN hb1)
    go_ret
    exact ⟨rfl, hN⟩
end Go.Proofs.YtjaklcmadkpmdaaDoor
