/- The walk of the statement on the laws of sets, at a text of at most 5000 bytes, the byte in the first set: true, in the second one: true: it answers yes, and nothing that was there has changed. -/
import Derived.Test.YtdingmbijglihaaDoorSetG
namespace Go.Proofs.YtdingmbijglihaaDoor
open Go.RowKit Go.Shelf

set_option maxRecDepth 100000 in
set_option maxHeartbeats 8000000 in
theorem laws_short3 (x y : S4) (hx : x.ok) (hy : y.ok) (b : Nat) (hb256 : b < 256) (s : ByteArray) (hs : s.size ≤ 5000) (w : World) (hT : Tab w) (hp : x.has b = true) (hq : y.has b = true) :
    Calls Tryd.prog 6 #[x.v, y.v, .int .u8 b, .string s] w fun e w' => e = .returned (.bool true) ∧ Below w.heap.size w w' := by
  have hshort : (s.size : Int) ≤ 5000 := by omega
  have hsm : s.size ≤ maxLen := by unfold maxLen; omega
  have hsm2 : (s ++ s).size ≤ maxLen := by unfold maxLen; rw [ByteArray.size_append]; omega
  have hlx : (⟨(lstB x).toArray⟩ : ByteArray).size ≤ maxLen := by
    have : (⟨(lstB x).toArray⟩ : ByteArray).size = (lstB x).length := by simp [ByteArray.size]
    have h2 := List.length_filter_le x.has (List.range 256)
    rw [List.length_range] at h2
    have h3 : x.lst.length ≤ 256 := h2
    rw [this, lstB_len]; unfold maxLen; omega
  have e1 : (x.or y).has b = (true || true) := by rw [S4.has_or, hp, hq]
  have e2 : (x.and y).has b = (true && true) := by rw [S4.has_and, hp, hq]
  have e3 : (x.minus y).has b = (true && !true) := by rw [S4.has_minus x hy, hp, hq]
  have e4 : x.not.has b = !true := by rw [S4.has_not hx, hp]
  have e5 := seen_all s hb256
  have e6 := bset_twice s
  have e7 := bset_list hx
  have e8 := not_not hx
  have e9 := not_or hx hy
  have e10 := minus_eq hx hy
  have e11 := lst_same hx hy
  unfold same4 at e11
  have E3 := Lib.hid e3
  have E5 := Lib.hid e5
  have E6 := Lib.hid e6
  have E7 := Lib.hid e7
  have E8 := Lib.hid e8
  have E9 := Lib.hid e9
  have E10 := Lib.hid e10
  have E11 := Lib.hid e11
  clear e5 e6 e7 e8 e9 e10 e11
  go_enter Tryd.func6, Tryd.ntmps6
  go_wp2_with fail
  have hB0 : Below w.heap.size w ((w.alloc (.cells #[.int .u64 x.a, .int .u64 x.b, .int .u64 x.c, .int .u64 x.d] 26)).alloc (.cells #[.int .u64 y.a, .int .u64 y.b, .int .u64 y.c, .int .u64 y.d] 26)) := ((Below.refl _ w).alloc (Nat.le_refl _) _).alloc (by simp) _
  have hS0 := St.start (hT.step hB0) hB0
  have hbx := (Box4.new w x).alloc (.cells #[.int .u64 y.a, .int .u64 y.b, .int .u64 y.c, .int .u64 y.d] 26)
  have hby := Box4.new (w.alloc (.cells #[.int .u64 x.a, .int .u64 x.b, .int .u64 x.c, .int .u64 x.d] 26)) y
  simp only [World.size_alloc] at hby
  obtain ⟨W0, hW0⟩ : ∃ W, W = ((w.alloc (.cells #[.int .u64 x.a, .int .u64 x.b, .int .u64 x.c, .int .u64 x.d] 26)).alloc (.cells #[.int .u64 y.a, .int .u64 y.b, .int .u64 y.c, .int .u64 y.d] 26)) := ⟨_, rfl⟩
  rw [← hW0] at hbx hby hS0 ⊢
  clear hW0 hB0
  have hL := hby.lt
  obtain ⟨N, hN⟩ : ∃ N, W0.heap.size = N := ⟨_, rfl⟩
  rw [hN] at hS0 hL
  clear hN
  have hLx : w.heap.size < N := by omega
  have hS := hS0
  clear hS0
  refine (awake_any _ hS.tab).mono ?_
  rintro e w1 ⟨rfl, hb⟩; have hS := St.step (by first | exact hS | exact St.drew hS) hb; clear hb; have hcx := hS.cell
  obtain ⟨x0, x1, x2, x3⟩ := hbx.cells
  obtain ⟨y0, y1, y2, y3⟩ := hby.cells
  all_goals
    simp at e1 e2 e3 e4
    go_wp2_with fail
    go_region_held3 (fun w' => w'.cell? ⟨w.heap.size, 0, none⟩ = some (.int .u64 x.a) ∧ w'.cell? ⟨w.heap.size, 1, none⟩ = some (.int .u64 x.b) ∧ w'.cell? ⟨w.heap.size, 2, none⟩ = some (.int .u64 x.c) ∧ w'.cell? ⟨w.heap.size, 3, none⟩ = some (.int .u64 x.d) ∧ w'.cell? ⟨w.heap.size + 1, 0, none⟩ = some (.int .u64 y.a) ∧ w'.cell? ⟨w.heap.size + 1, 1, none⟩ = some (.int .u64 y.b) ∧ w'.cell? ⟨w.heap.size + 1, 2, none⟩ = some (.int .u64 y.c) ∧ w'.cell? ⟨w.heap.size + 1, 3, none⟩ = some (.int .u64 y.d))
      (first
        | go_keep
        | (go_split_ands
           refine ⟨?_, ?_, ?_, ?_, ?_, ?_, ?_, ?_⟩
           all_goals (rw [hcx _ _ (by omega)]; assumption)))
      (first
        | (go_at_call 13; refine (has_any _ (by first | exact hx | exact hy | exact ok_bset _ | exact S4.ok_and hx hy | exact S4.ok_or hx hy | exact S4.ok_minus hx hy | exact S4.ok_not hx | exact S4.ok_not hy | exact S4.ok_and (S4.ok_not hx) (S4.ok_not hy) | exact S4.ok_and hx (S4.ok_not hy)) b hb256 _).mono ?_; rintro e w1 ⟨rfl, hb⟩; have hS := St.step (by first | exact hS | exact St.drew hS) hb; clear hb; have hcx := hS.cell)
        | (go_at_call 30; refine (or_any _ _ (by first | exact hx | exact hy | exact ok_bset _ | exact S4.ok_and hx hy | exact S4.ok_or hx hy | exact S4.ok_minus hx hy | exact S4.ok_not hx | exact S4.ok_not hy | exact S4.ok_and (S4.ok_not hx) (S4.ok_not hy) | exact S4.ok_and hx (S4.ok_not hy)) (by first | exact hx | exact hy | exact ok_bset _ | exact S4.ok_and hx hy | exact S4.ok_or hx hy | exact S4.ok_minus hx hy | exact S4.ok_not hx | exact S4.ok_not hy | exact S4.ok_and (S4.ok_not hx) (S4.ok_not hy) | exact S4.ok_and hx (S4.ok_not hy)) _).mono ?_; rintro e w1 ⟨rfl, hb⟩; have hS := St.step (by first | exact hS | exact St.drew hS) hb; clear hb; have hcx := hS.cell)
        | (go_at_call 32; refine (and_any _ _ (by first | exact hx | exact hy | exact ok_bset _ | exact S4.ok_and hx hy | exact S4.ok_or hx hy | exact S4.ok_minus hx hy | exact S4.ok_not hx | exact S4.ok_not hy | exact S4.ok_and (S4.ok_not hx) (S4.ok_not hy) | exact S4.ok_and hx (S4.ok_not hy)) (by first | exact hx | exact hy | exact ok_bset _ | exact S4.ok_and hx hy | exact S4.ok_or hx hy | exact S4.ok_minus hx hy | exact S4.ok_not hx | exact S4.ok_not hy | exact S4.ok_and (S4.ok_not hx) (S4.ok_not hy) | exact S4.ok_and hx (S4.ok_not hy)) _).mono ?_; rintro e w1 ⟨rfl, hb⟩; have hS := St.step (by first | exact hS | exact St.drew hS) hb; clear hb; have hcx := hS.cell)
        | (go_at_call 34; refine (minus_any _ _ (by first | exact hx | exact hy | exact ok_bset _ | exact S4.ok_and hx hy | exact S4.ok_or hx hy | exact S4.ok_minus hx hy | exact S4.ok_not hx | exact S4.ok_not hy | exact S4.ok_and (S4.ok_not hx) (S4.ok_not hy) | exact S4.ok_and hx (S4.ok_not hy)) (by first | exact hx | exact hy | exact ok_bset _ | exact S4.ok_and hx hy | exact S4.ok_or hx hy | exact S4.ok_minus hx hy | exact S4.ok_not hx | exact S4.ok_not hy | exact S4.ok_and (S4.ok_not hx) (S4.ok_not hy) | exact S4.ok_and hx (S4.ok_not hy)) _).mono ?_; rintro e w1 ⟨rfl, hb⟩; have hS := St.step (by first | exact hS | exact St.drew hS) hb; clear hb; have hcx := hS.cell)
        | (go_at_call 15; refine (not_any _ (by first | exact hx | exact hy | exact ok_bset _ | exact S4.ok_and hx hy | exact S4.ok_or hx hy | exact S4.ok_minus hx hy | exact S4.ok_not hx | exact S4.ok_not hy | exact S4.ok_and (S4.ok_not hx) (S4.ok_not hy) | exact S4.ok_and hx (S4.ok_not hy)) _).mono ?_; rintro e w1 ⟨rfl, hb⟩; have hS := St.step (by first | exact hS | exact St.drew hS) hb; clear hb; have hcx := hS.cell)
        | (go_at_call 12; refine (of_bset _ (by first | exact hsm | exact hsm2 | exact hlx) _).mono ?_; rintro e w1 ⟨rfl, hb⟩; have hS := St.step (by first | exact hS | exact St.drew hS) hb; clear hb; have hcx := hS.cell)
        | (go_at_call 18; refine (list_any _ (by first | exact hx | exact hy | exact ok_bset _ | exact S4.ok_and hx hy | exact S4.ok_or hx hy | exact S4.ok_minus hx hy | exact S4.ok_not hx | exact S4.ok_not hy | exact S4.ok_and (S4.ok_not hx) (S4.ok_not hy) | exact S4.ok_and hx (S4.ok_not hy)) _ (by exact hS.tab)).mono ?_; rintro e w1 ⟨rfl, hb⟩; have hS := St.step (by first | exact hS | exact St.drew hS) hb; clear hb; have hcx := hS.cell))
    go_wp2_with (first
        | (go_at_call 13; refine (has_any _ (by first | exact hx | exact hy | exact ok_bset _ | exact S4.ok_and hx hy | exact S4.ok_or hx hy | exact S4.ok_minus hx hy | exact S4.ok_not hx | exact S4.ok_not hy | exact S4.ok_and (S4.ok_not hx) (S4.ok_not hy) | exact S4.ok_and hx (S4.ok_not hy)) b hb256 _).mono ?_; rintro e w1 ⟨rfl, hb⟩; have hS := St.step (by first | exact hS | exact St.drew hS) hb; clear hb; have hcx := hS.cell)
        | (go_at_call 30; refine (or_any _ _ (by first | exact hx | exact hy | exact ok_bset _ | exact S4.ok_and hx hy | exact S4.ok_or hx hy | exact S4.ok_minus hx hy | exact S4.ok_not hx | exact S4.ok_not hy | exact S4.ok_and (S4.ok_not hx) (S4.ok_not hy) | exact S4.ok_and hx (S4.ok_not hy)) (by first | exact hx | exact hy | exact ok_bset _ | exact S4.ok_and hx hy | exact S4.ok_or hx hy | exact S4.ok_minus hx hy | exact S4.ok_not hx | exact S4.ok_not hy | exact S4.ok_and (S4.ok_not hx) (S4.ok_not hy) | exact S4.ok_and hx (S4.ok_not hy)) _).mono ?_; rintro e w1 ⟨rfl, hb⟩; have hS := St.step (by first | exact hS | exact St.drew hS) hb; clear hb; have hcx := hS.cell)
        | (go_at_call 32; refine (and_any _ _ (by first | exact hx | exact hy | exact ok_bset _ | exact S4.ok_and hx hy | exact S4.ok_or hx hy | exact S4.ok_minus hx hy | exact S4.ok_not hx | exact S4.ok_not hy | exact S4.ok_and (S4.ok_not hx) (S4.ok_not hy) | exact S4.ok_and hx (S4.ok_not hy)) (by first | exact hx | exact hy | exact ok_bset _ | exact S4.ok_and hx hy | exact S4.ok_or hx hy | exact S4.ok_minus hx hy | exact S4.ok_not hx | exact S4.ok_not hy | exact S4.ok_and (S4.ok_not hx) (S4.ok_not hy) | exact S4.ok_and hx (S4.ok_not hy)) _).mono ?_; rintro e w1 ⟨rfl, hb⟩; have hS := St.step (by first | exact hS | exact St.drew hS) hb; clear hb; have hcx := hS.cell)
        | (go_at_call 34; refine (minus_any _ _ (by first | exact hx | exact hy | exact ok_bset _ | exact S4.ok_and hx hy | exact S4.ok_or hx hy | exact S4.ok_minus hx hy | exact S4.ok_not hx | exact S4.ok_not hy | exact S4.ok_and (S4.ok_not hx) (S4.ok_not hy) | exact S4.ok_and hx (S4.ok_not hy)) (by first | exact hx | exact hy | exact ok_bset _ | exact S4.ok_and hx hy | exact S4.ok_or hx hy | exact S4.ok_minus hx hy | exact S4.ok_not hx | exact S4.ok_not hy | exact S4.ok_and (S4.ok_not hx) (S4.ok_not hy) | exact S4.ok_and hx (S4.ok_not hy)) _).mono ?_; rintro e w1 ⟨rfl, hb⟩; have hS := St.step (by first | exact hS | exact St.drew hS) hb; clear hb; have hcx := hS.cell)
        | (go_at_call 15; refine (not_any _ (by first | exact hx | exact hy | exact ok_bset _ | exact S4.ok_and hx hy | exact S4.ok_or hx hy | exact S4.ok_minus hx hy | exact S4.ok_not hx | exact S4.ok_not hy | exact S4.ok_and (S4.ok_not hx) (S4.ok_not hy) | exact S4.ok_and hx (S4.ok_not hy)) _).mono ?_; rintro e w1 ⟨rfl, hb⟩; have hS := St.step (by first | exact hS | exact St.drew hS) hb; clear hb; have hcx := hS.cell)
        | (go_at_call 12; refine (of_bset _ (by first | exact hsm | exact hsm2 | exact hlx) _).mono ?_; rintro e w1 ⟨rfl, hb⟩; have hS := St.step (by first | exact hS | exact St.drew hS) hb; clear hb; have hcx := hS.cell)
        | (go_at_call 18; refine (list_any _ (by first | exact hx | exact hy | exact ok_bset _ | exact S4.ok_and hx hy | exact S4.ok_or hx hy | exact S4.ok_minus hx hy | exact S4.ok_not hx | exact S4.ok_not hy | exact S4.ok_and (S4.ok_not hx) (S4.ok_not hy) | exact S4.ok_and hx (S4.ok_not hy)) _ (by exact hS.tab)).mono ?_; rintro e w1 ⟨rfl, hb⟩; have hS := St.step (by first | exact hS | exact St.drew hS) hb; clear hb; have hcx := hS.cell))
    clear e1 e2 e3 e4 x0 x1 x2 x3 y0 y1 y2 y3
    go_loop [11, 12] (fun n i => ∃ k : Nat, k ≤ s.size ∧ i = .int .i64 k ∧ n = .bool (seen s b k)) (fun _ i => s.size - (intOf i).toNat)
    case atStart => exact ⟨0, Nat.zero_le _, rfl, by rw [seen_zero]⟩
    case round =>
      obtain ⟨k, hk, rfl, rfl⟩ := hrel
      by_cases hlt : k < s.size
      · have hsn := Lib.hid (seen_succ s b k hlt)
        have hk2 : (k : Int) < (s.size : Int) := by omega
        cases hse : seen s b k with
        | true =>
          go_wp2
          go_round
          case rel => exact ⟨k + 1, by omega, by go_num, by rw [hsn.out, hse]; rfl⟩
          case measure => simp [intOf]; omega
        | false =>
          by_cases heq : s[k].toNat = b
          · have hB : ((s[k].toNat : Int) == (b : Int)) = true := by rw [beq_iff_eq]; omega
            go_wp2
            go_round
            case rel => exact ⟨k + 1, by omega, by go_num, by rw [hsn.out, hse, decide_eq_true heq]; rfl⟩
            case measure => simp [intOf]; omega
          · have hB : ((s[k].toNat : Int) == (b : Int)) = false := by rw [beq_eq_false_iff_ne]; omega
            go_wp2
            go_round
            case rel => exact ⟨k + 1, by omega, by go_num, by rw [hsn.out, hse, decide_eq_false heq]; rfl⟩
            case measure => simp [intOf]; omega
      · obtain rfl : k = s.size := by omega
        go_wp2_with fail
        refine (of_bset _ hsm _).mono ?_
        rintro e w1 ⟨rfl, hb⟩; have hS := St.step (by first | exact hS | exact St.drew hS) hb; clear hb; have hcx := hS.cell
        go_wp2_with fail
        have hZ := Box4.new w1 (bset s)
        have hX1 := (hS.box hbx hLx).alloc (.cells #[.int .u64 (bset s).a, .int .u64 (bset s).b, .int .u64 (bset s).c, .int .u64 (bset s).d] 26)
        have hY1 := (hS.box hby hL).alloc (.cells #[.int .u64 (bset s).a, .int .u64 (bset s).b, .int .u64 (bset s).c, .int .u64 (bset s).d] 26)
        have hS1 := St.start (W := w1.alloc (.cells #[.int .u64 (bset s).a, .int .u64 (bset s).b, .int .u64 (bset s).c, .int .u64 (bset s).d] 26)) (hS.tab.below ((Below.refl _ w1).alloc (Nat.le_refl _) _) hS.tab.lt) (hS.below.alloc hS.below.size (.cells #[.int .u64 (bset s).a, .int .u64 (bset s).b, .int .u64 (bset s).c, .int .u64 (bset s).d] 26))
        clear hS hcx
        obtain ⟨W1, hW1⟩ : ∃ W, W = w1.alloc (.cells #[.int .u64 (bset s).a, .int .u64 (bset s).b, .int .u64 (bset s).c, .int .u64 (bset s).d] 26) := ⟨_, rfl⟩
        rw [← hW1] at hZ hX1 hY1 hS1 ⊢
        clear hW1
        obtain ⟨Bz, hBz⟩ : ∃ Bz, w1.heap.size = Bz := ⟨_, rfl⟩
        rw [hBz] at hZ ⊢
        clear hBz
        have lz := hZ.lt
        have lx := hX1.lt
        have ly := hY1.lt
        obtain ⟨N1, hN1⟩ : ∃ N1, W1.heap.size = N1 := ⟨_, rfl⟩
        rw [hN1] at hS1 lz lx ly
        clear hN1 hL hLx hbx hby
        have hS := hS1
        have hcx := hS.cell
        clear hS1
        obtain ⟨x0, x1, x2, x3⟩ := hX1.cells
        obtain ⟨y0, y1, y2, y3⟩ := hY1.cells
        obtain ⟨z0, z1, z2, z3⟩ := hZ.cells
        clear hX1 hY1 hZ hp hq
        have e5 := E5.out
        have hcat := str_twice s hs
        have e6 := E6.out
        have e7 := E7.out
        have e8 := E8.out
        have e9 := E9.out
        have e10 := E10.out
        have e11 := E11.out
        go_region_held3 (fun w' => w'.cell? ⟨w.heap.size, 0, none⟩ = some (.int .u64 x.a) ∧ w'.cell? ⟨w.heap.size, 1, none⟩ = some (.int .u64 x.b) ∧ w'.cell? ⟨w.heap.size, 2, none⟩ = some (.int .u64 x.c) ∧ w'.cell? ⟨w.heap.size, 3, none⟩ = some (.int .u64 x.d) ∧ w'.cell? ⟨w.heap.size + 1, 0, none⟩ = some (.int .u64 y.a) ∧ w'.cell? ⟨w.heap.size + 1, 1, none⟩ = some (.int .u64 y.b) ∧ w'.cell? ⟨w.heap.size + 1, 2, none⟩ = some (.int .u64 y.c) ∧ w'.cell? ⟨w.heap.size + 1, 3, none⟩ = some (.int .u64 y.d) ∧ w'.cell? ⟨Bz, 0, none⟩ = some (.int .u64 (bset s).a) ∧ w'.cell? ⟨Bz, 1, none⟩ = some (.int .u64 (bset s).b) ∧ w'.cell? ⟨Bz, 2, none⟩ = some (.int .u64 (bset s).c) ∧ w'.cell? ⟨Bz, 3, none⟩ = some (.int .u64 (bset s).d))
          (first
        | go_keep
        | (go_split_ands
           refine ⟨?_, ?_, ?_, ?_, ?_, ?_, ?_, ?_, ?_, ?_, ?_, ?_⟩
           all_goals (rw [hcx _ _ (by omega)]; assumption)))
          (first
        | (go_at_call 13; refine (has_any _ (by first | exact hx | exact hy | exact ok_bset _ | exact S4.ok_and hx hy | exact S4.ok_or hx hy | exact S4.ok_minus hx hy | exact S4.ok_not hx | exact S4.ok_not hy | exact S4.ok_and (S4.ok_not hx) (S4.ok_not hy) | exact S4.ok_and hx (S4.ok_not hy)) b hb256 _).mono ?_; rintro e w1 ⟨rfl, hb⟩; have hS := St.step (by first | exact hS | exact St.drew hS) hb; clear hb; have hcx := hS.cell)
        | (go_at_call 30; refine (or_any _ _ (by first | exact hx | exact hy | exact ok_bset _ | exact S4.ok_and hx hy | exact S4.ok_or hx hy | exact S4.ok_minus hx hy | exact S4.ok_not hx | exact S4.ok_not hy | exact S4.ok_and (S4.ok_not hx) (S4.ok_not hy) | exact S4.ok_and hx (S4.ok_not hy)) (by first | exact hx | exact hy | exact ok_bset _ | exact S4.ok_and hx hy | exact S4.ok_or hx hy | exact S4.ok_minus hx hy | exact S4.ok_not hx | exact S4.ok_not hy | exact S4.ok_and (S4.ok_not hx) (S4.ok_not hy) | exact S4.ok_and hx (S4.ok_not hy)) _).mono ?_; rintro e w1 ⟨rfl, hb⟩; have hS := St.step (by first | exact hS | exact St.drew hS) hb; clear hb; have hcx := hS.cell)
        | (go_at_call 32; refine (and_any _ _ (by first | exact hx | exact hy | exact ok_bset _ | exact S4.ok_and hx hy | exact S4.ok_or hx hy | exact S4.ok_minus hx hy | exact S4.ok_not hx | exact S4.ok_not hy | exact S4.ok_and (S4.ok_not hx) (S4.ok_not hy) | exact S4.ok_and hx (S4.ok_not hy)) (by first | exact hx | exact hy | exact ok_bset _ | exact S4.ok_and hx hy | exact S4.ok_or hx hy | exact S4.ok_minus hx hy | exact S4.ok_not hx | exact S4.ok_not hy | exact S4.ok_and (S4.ok_not hx) (S4.ok_not hy) | exact S4.ok_and hx (S4.ok_not hy)) _).mono ?_; rintro e w1 ⟨rfl, hb⟩; have hS := St.step (by first | exact hS | exact St.drew hS) hb; clear hb; have hcx := hS.cell)
        | (go_at_call 34; refine (minus_any _ _ (by first | exact hx | exact hy | exact ok_bset _ | exact S4.ok_and hx hy | exact S4.ok_or hx hy | exact S4.ok_minus hx hy | exact S4.ok_not hx | exact S4.ok_not hy | exact S4.ok_and (S4.ok_not hx) (S4.ok_not hy) | exact S4.ok_and hx (S4.ok_not hy)) (by first | exact hx | exact hy | exact ok_bset _ | exact S4.ok_and hx hy | exact S4.ok_or hx hy | exact S4.ok_minus hx hy | exact S4.ok_not hx | exact S4.ok_not hy | exact S4.ok_and (S4.ok_not hx) (S4.ok_not hy) | exact S4.ok_and hx (S4.ok_not hy)) _).mono ?_; rintro e w1 ⟨rfl, hb⟩; have hS := St.step (by first | exact hS | exact St.drew hS) hb; clear hb; have hcx := hS.cell)
        | (go_at_call 15; refine (not_any _ (by first | exact hx | exact hy | exact ok_bset _ | exact S4.ok_and hx hy | exact S4.ok_or hx hy | exact S4.ok_minus hx hy | exact S4.ok_not hx | exact S4.ok_not hy | exact S4.ok_and (S4.ok_not hx) (S4.ok_not hy) | exact S4.ok_and hx (S4.ok_not hy)) _).mono ?_; rintro e w1 ⟨rfl, hb⟩; have hS := St.step (by first | exact hS | exact St.drew hS) hb; clear hb; have hcx := hS.cell)
        | (go_at_call 12; refine (of_bset _ (by first | exact hsm | exact hsm2 | exact hlx) _).mono ?_; rintro e w1 ⟨rfl, hb⟩; have hS := St.step (by first | exact hS | exact St.drew hS) hb; clear hb; have hcx := hS.cell)
        | (go_at_call 18; refine (list_any _ (by first | exact hx | exact hy | exact ok_bset _ | exact S4.ok_and hx hy | exact S4.ok_or hx hy | exact S4.ok_minus hx hy | exact S4.ok_not hx | exact S4.ok_not hy | exact S4.ok_and (S4.ok_not hx) (S4.ok_not hy) | exact S4.ok_and hx (S4.ok_not hy)) _ (by exact hS.tab)).mono ?_; rintro e w1 ⟨rfl, hb⟩; have hS := St.step (by first | exact hS | exact St.drew hS) hb; clear hb; have hcx := hS.cell))
        go_wp2
        go_ret
        exact ⟨rfl, hS.below⟩
end Go.Proofs.YtdingmbijglihaaDoor
