/- QuoteBack: the walk of the statement. -/
import Derived.Test.YtjaklcmadkpmdaaDoorQuoF
import Derived.Test.YtjaklcmadkpmdaaDoorQuoSc
import Derived.Test.YtjaklcmadkpmdaaDoorQuoBa
namespace Go.Proofs.YtjaklcmadkpmdaaDoor
open Go Go.RowKit Go.Shelf
set_option linter.unusedSimpArgs false
set_option linter.unusedVariables false

theorem Box4.more {W : World} {g : Nat} {s : S4} (h : Box4 W g s) (o : Obj) : Box4 (W.alloc o) g s := by
  have hlt := h.lt
  unfold Box4 at h ⊢
  exact (Below.heap_alloc _ _ _ hlt).trans h

theorem unliteral_back {W0 w : World} (hI : Inv W0) (hb0 : Below W0.heap.size W0 w) (s X : ByteArray) {m : List UInt8} (hX : X.data.toList = litL s ++ m) (hx : X.size ≤ 20000) (hs : s.size ≤ 255) :
    Calls Tryd.prog 10 #[.string X] w fun e w' => e = .returned (.tuple #[.string s, .int .i64 (litL s).length, .int .i64 0]) ∧ Below w.heap.size w w' := by
  refine (unliteral_any hI hb0 X hx (X.size + 1) (Nat.lt_succ_self _)).mono ?_
  rintro e w' ⟨⟨mb, rfl⟩, hb⟩
  rw [unl_back s X mb hX hs _ (Nat.lt_succ_self _)]
  exact ⟨rfl, hb⟩
theorem unclass_back {W0 w : World} (hI : Inv W0) (hb0 : Below W0.heap.size W0 w) (x : S4) (hx : x.ok) (hE : same4 x S4.nil.not = false) (X : ByteArray) {m : List UInt8} (hX : X.data.toList = clsL x ++ m) (hs : X.size ≤ 20000) :
    Calls Tryd.prog 14 #[.string X] w fun e w' => e = .returned (.tuple #[x.v, .int .i64 (clsL x).length, .int .i64 0]) ∧ Below w.heap.size w w' := by
  have hh : ∀ mb, ((rd0 true X mb).expect 91).e = 0 ∧ ((rd0 true X mb).expect 91).next 94 = false := fun mb => by
    have hl : clsL x = 91 :: ((rs (lstB x)).flatMap runL ++ [93]) := by
      unfold clsL clsP
      rw [hE]
      simp
    rw [hl] at hX
    have h0 : (rd0 true X mb).Has (91 :: ((rs (lstB x)).flatMap runL ++ 93 :: m)) := ⟨[], by show X.data.toList.drop 0 = _; rw [List.drop_zero, hX]; simp⟩
    have h1 := expect_back (r := rd0 true X mb) rfl h0
    obtain ⟨y, l, e, hy, hy2⟩ := runs_head (rs (lstB x)) m
    rw [h1]
    refine ⟨rfl, ?_⟩
    have := h0.up
    rw [e] at this
    rw [this.next, beq_eq_false_iff_ne]
    exact hy2
  refine (unclass_plain hI hb0 X hs (X.size + 1) (Nat.lt_succ_self _) hh).mono ?_
  rintro e w' ⟨⟨mb, rfl⟩, hb⟩
  rw [uncl_back x hx hE X mb hX _ (Nat.lt_succ_self _)]
  exact ⟨rfl, hb⟩

set_option maxRecDepth 100000 in
set_option maxHeartbeats 4000000 in
theorem back_walk (s u : ByteArray) (x : S4) (hx : x.ok) (t : ByteArray) (hs : s.size ≤ 140737488351232) (hu : u.size ≤ 140737488351232) (ht : t.size ≤ 140737488351232) (W : World) (hI : Inv W) :
    Calls Tryd.prog 5 #[.string s, .string u, x.v, .string t] W fun e w' => e = .returned (.bool true) ∧ Below W.heap.size W w' := by
  have HI := Lib.hid hI
  clear hI
  have hbs := Box4.new W x
  have hN : Below W.heap.size W (W.alloc (.cells #[.int .u64 x.a, .int .u64 x.b, .int .u64 x.c, .int .u64 x.d] 31)) := (Below.refl _ W).alloc (Nat.le_refl _) _
  by_cases hl : s.size + u.size + t.size ≤ 5000
  · have hd : decide ((5000 : Int) < ((s.size : Int) + (u.size : Int)) + (t.size : Int)) = false := by simp; omega
    have hd2 : decide ((5000 : Int) < ((s.size + u.size + t.size : Nat) : Int)) = false := by simp; omega
    obtain ⟨A, hA⟩ : ∃ A : ByteArray, A = ⟨(litL s).toArray⟩ := ⟨_, rfl⟩
    obtain ⟨B, hB⟩ : ∃ B : ByteArray, B = ⟨(litL u).toArray⟩ := ⟨_, rfl⟩
    obtain ⟨C, hC⟩ : ∃ C : ByteArray, C = ⟨(clsL x).toArray⟩ := ⟨_, rfl⟩
    have HA := Lib.hid (show ∀ w, Below W.heap.size W w → Calls Tryd.prog 9 #[.string s] w fun e w' => e = .returned (.string A) ∧ Below w.heap.size w w' from fun w hb => by rw [hA]; exact literal_any HI.out hb s (by omega))
    have HB := Lib.hid (show ∀ w, Below W.heap.size W w → Calls Tryd.prog 9 #[.string u] w fun e w' => e = .returned (.string B) ∧ Below w.heap.size w w' from fun w hb => by rw [hB]; exact literal_any HI.out hb u (by omega))
    have HC := Lib.hid (show ∀ w, Below W.heap.size W w → Calls Tryd.prog 13 #[x.v] w fun e w' => e = .returned (.string C) ∧ Below w.heap.size w w' from fun w hb => by rw [hC]; exact class_any HI.out hb x hx)
    have HUL := Lib.hid (show ∀ (s X : ByteArray) (m : List UInt8) (w : World), Below W.heap.size W w → X.data.toList = litL s ++ m → X.size ≤ 20000 → s.size ≤ 255 → Calls Tryd.prog 10 #[.string X] w fun e w' => e = .returned (.tuple #[.string s, .int .i64 (litL s).length, .int .i64 0]) ∧ Below w.heap.size w w' from fun s X m w hb h1 h2 h3 => unliteral_back HI.out hb s X h1 h2 h3)
    have HUC := Lib.hid (show ∀ (X : ByteArray) (m : List UInt8) (w : World), Below W.heap.size W w → X.data.toList = clsL x ++ m → X.size ≤ 20000 → same4 x S4.nil.not = false → Calls Tryd.prog 14 #[.string X] w fun e w' => e = .returned (.tuple #[x.v, .int .i64 (clsL x).length, .int .i64 0]) ∧ Below w.heap.size w w' from fun X m w hb h1 h2 h3 => unclass_back HI.out hb x hx h3 X h1 h2)
    clear hx
    have lenL : ∀ r : ByteArray, (litL r).length ≤ 4 * r.size + 2 := fun r => by
      unfold litL
      have := litP_len r r.size (Nat.le_refl _)
      rw [List.length_append]
      simp only [List.length_cons, List.length_nil]
      omega
    have hAs : A.size = (litL s).length := by rw [hA]; rfl
    have hBs : B.size = (litL u).length := by rw [hB]; rfl
    have hCs : C.size = (clsL x).length := by rw [hC]; rfl
    have hCl : (clsL x).length ≤ 2500 := by
      unfold clsL
      split
      · simp
      · have := clsP_len (rs (lstB x)) _ (Nat.le_refl _)
        have := rs256 x
        rw [List.length_append]
        simp only [List.length_cons, List.length_nil]
        omega
    have hA1 : A.size ≤ 4 * s.size + 2 := by rw [hAs]; exact lenL s
    have hB1 : B.size ≤ 4 * u.size + 2 := by rw [hBs]; exact lenL u
    have hC1 : C.size ≤ 2500 := by rw [hCs]; exact hCl
    have HU1 := Lib.hid (show ∀ w, Below W.heap.size W w → (A ++ B ++ t).size ≤ 20000 → s.size ≤ 255 → Calls Tryd.prog 10 #[.string (A ++ B ++ t)] w fun e w' => e = .returned (.tuple #[.string s, .int .i64 A.size, .int .i64 0]) ∧ Below w.heap.size w w' from fun w hb h1 h2 => by rw [hAs]; exact HUL.out s _ (litL u ++ t.data.toList) w hb (by rw [hA, hB]; simp) h1 h2)
    have HU2 := Lib.hid (show ∀ (Z : ByteArray) w, Z.data.toList = litL u ++ t.data.toList → Below W.heap.size W w → Z.size ≤ 20000 → u.size ≤ 255 → Calls Tryd.prog 10 #[.string Z] w fun e w' => e = .returned (.tuple #[.string u, .int .i64 B.size, .int .i64 0]) ∧ Below w.heap.size w w' from fun Z w hz hb h1 h2 => by rw [hBs]; exact HUL.out u _ t.data.toList w hb hz h1 h2)
    have HZe := Lib.hid (show ((A ++ B ++ t).extract A.size (A.size + B.size + t.size)).data.toList = litL u ++ t.data.toList from by
      have hal : A.size = A.data.toList.length := by rw [Array.length_toList]; rfl
      have hbl : B.size + t.size = (B.data.toList ++ t.data.toList).length := by rw [List.length_append, Array.length_toList, Array.length_toList]; rfl
      rw [ByteArray.data_extract, Array.toList_extract, ByteArray.data_append, ByteArray.data_append, Array.toList_append, Array.toList_append, List.append_assoc, Nat.add_assoc, hbl, hal]
      rw [List.extract_eq_take_drop, List.drop_left, Nat.add_sub_cancel_left, List.take_length, hB])
    have HC1 := Lib.hid (show ∀ w, Below W.heap.size W w → (C ++ t).size ≤ 20000 → same4 x S4.nil.not = false → Calls Tryd.prog 14 #[.string (C ++ t)] w fun e w' => e = .returned (.tuple #[x.v, .int .i64 C.size, .int .i64 0]) ∧ Below w.heap.size w w' from fun w hb h1 h2 => by rw [hCs]; exact HUC.out _ t.data.toList w hb (by rw [hC]; simp) h1 h2)
    have HZ := Lib.hid (show A.data.toList = litL s ∧ B.data.toList = litL u from ⟨by rw [hA], by rw [hB]⟩)
    have HCD := Lib.hid (show same4 x S4.nil.not = true → C = ⟨#[46]⟩ from fun h => by rw [hC]; unfold clsL; rw [if_pos h])
    clear hA hB hC hAs hBs hCs hCl lenL HUL HUC
    by_cases h1 : s.size ≤ 255
    · have d1 : decide ((s.size : Int) ≤ 255) = true := by simp; omega
      by_cases h2 : u.size ≤ 255
      · have d2 : decide ((u.size : Int) ≤ 255) = true := by simp; omega
        have c1 : A.size + B.size ≤ 9223372036854775807 := by omega
        have c2 : ¬ (9223372036854775807 < A.size + B.size) := by omega
        have c3 : (A ++ B).size + t.size ≤ 9223372036854775807 := by rw [ByteArray.size_append]; omega
        have c4 : ¬ (9223372036854775807 < (A ++ B).size + t.size) := by omega
        have c5 : (A ++ B ++ t).size ≤ 20000 := by rw [ByteArray.size_append, ByteArray.size_append]; omega
        have c6 : ((A ++ B ++ t).extract A.size (A.size + B.size + t.size)).size ≤ 20000 := by rw [ByteArray.size_extract]; omega
        go_enter Tryd.func5, Tryd.ntmps5
        go_wp2_with (first
          | (go_at_call 8; refine (awake_any HI.out hN).mono ?_; rintro e w1 ⟨rfl, hb1⟩; have hbs := hbs.below hb1 hbs.lt; have hN := bstep hN hb1; clear hb1)
          | (go_at_call 9; with_reducible refine (HA.out _ hN).mono ?_; rintro e w2 ⟨rfl, hb1⟩; have hbs := hbs.below hb1 hbs.lt; have hN := bstep hN hb1; clear hb1)
          | (go_at_call 9; with_reducible refine (HB.out _ hN).mono ?_; rintro e w3 ⟨rfl, hb1⟩; have hbs := hbs.below hb1 hbs.lt; have hN := bstep hN hb1; clear hb1)
          | (go_at_call 10; with_reducible refine (HU2.out _ _ HZe.out hN c6 h2).mono ?_; rintro e w5 ⟨rfl, hb1⟩; have hbs := hbs.below hb1 hbs.lt; have hN := bstep hN hb1; clear hb1; obtain ⟨x0, x1, x2, x3⟩ := hbs.cells)
          | (go_at_call 13; with_reducible refine (HC.out _ hN).mono ?_; rintro e w6 ⟨rfl, hb1⟩; have hbs := hbs.below hb1 hbs.lt; have hN := bstep hN hb1; clear hb1 x0 x1 x2 x3; obtain ⟨x0, x1, x2, x3⟩ := hbs.cells)
          | (go_at_call 10; with_reducible refine (HU1.out _ hN c5 h1).mono ?_; rintro e w4 ⟨rfl, hb1⟩; have hbs := hbs.below hb1 hbs.lt; have hN := bstep hN hb1; clear hb1))
        cases hE : same4 x S4.nil.not with
        | true =>
          have hC0 := HCD.out hE
          have d3 : (C.toList == ByteArray.toList ⟨#[46]⟩) = true := by rw [hC0]; exact BEq.rfl
          have d4 : (C.toList == [46]) = true := by rw [hC0, ByteArray.toList_eq]; rfl
          clear hC0
          go_region_with (go_at_call 17; refine (all_any _).mono ?_; rintro e w7 ⟨rfl, hb7⟩; have hsz := hb7.size; obtain ⟨y0, y1, y2, y3⟩ := (hbs.drew.below hb7 hbs.lt).cells; have hN7 := bstep hN.drew hb7)
          all_goals
            go_wp2
            go_ret
            exact ⟨rfl, hN7⟩
        | false =>
          have c7 : (C ++ t).size ≤ 20000 := by rw [ByteArray.size_append]; omega
          have c8 : C.size + t.size ≤ 9223372036854775807 := by omega
          have c9 : ¬ (9223372036854775807 < C.size + t.size) := by omega
          go_region_with (go_at_call 17; refine (all_any _).mono ?_; rintro e w7 ⟨rfl, hb7⟩; have hsz := hb7.size; have hbs7 := hbs.drew.below hb7 hbs.lt; obtain ⟨y0, y1, y2, y3⟩ := hbs7.cells; have hN7 := bstep hN.drew hb7)
          all_goals
            go_wp2_with (go_at_call 14; with_reducible refine (HC1.out _ (by first | exact hN7 | exact hN7.drew) c7 hE).mono ?_; rintro e w8 ⟨rfl, hb8⟩; have hbs8 := (show Box4 w8 W.heap.size x from by first | exact hbs7.below hb8 hbs7.lt | exact hbs7.drew.below hb8 hbs7.lt); have hN8 := (show Below W.heap.size W w8 from by first | exact bstep hN7 hb8 | exact bstep hN7.drew hb8); have hN9 := hN8.alloc hN8.size (.cells #[.int .u64 x.a, .int .u64 x.b, .int .u64 x.c, .int .u64 x.d] 31); have hbs9 : Box4 (w8.alloc (.cells #[.int .u64 x.a, .int .u64 x.b, .int .u64 x.c, .int .u64 x.d] 31)) W.heap.size x := hbs8.more _; obtain ⟨q0, q1, q2, q3⟩ := hbs9.cells; obtain ⟨z0, z1, z2, z3⟩ := (Box4.new w8 x).cells)
            go_ret
            exact ⟨rfl, hN9⟩
      · have d2 : decide ((u.size : Int) ≤ 255) = false := by simp; omega
        go_enter Tryd.func5, Tryd.ntmps5
        go_wp2_with (first
          | (go_at_call 8; refine (awake_any HI.out hN).mono ?_; rintro e w1 ⟨rfl, hb1⟩; have hbs := hbs.below hb1 hbs.lt; have hN := bstep hN hb1; clear hb1)
          | (go_at_call 9; with_reducible refine (HA.out _ hN).mono ?_; rintro e w2 ⟨rfl, hb1⟩; have hbs := hbs.below hb1 hbs.lt; have hN := bstep hN hb1; clear hb1)
          | (go_at_call 9; with_reducible refine (HB.out _ hN).mono ?_; rintro e w3 ⟨rfl, hb1⟩; have hbs := hbs.below hb1 hbs.lt; have hN := bstep hN hb1; clear hb1; obtain ⟨x0, x1, x2, x3⟩ := hbs.cells)
          | (go_at_call 13; with_reducible refine (HC.out _ hN).mono ?_; rintro e w6 ⟨rfl, hb1⟩; have hbs := hbs.below hb1 hbs.lt; have hN := bstep hN hb1; clear hb1 x0 x1 x2 x3; obtain ⟨x0, x1, x2, x3⟩ := hbs.cells))
        cases hE : same4 x S4.nil.not with
        | true =>
          have hC0 := HCD.out hE
          have d3 : (C.toList == ByteArray.toList ⟨#[46]⟩) = true := by rw [hC0]; exact BEq.rfl
          have d4 : (C.toList == [46]) = true := by rw [hC0, ByteArray.toList_eq]; rfl
          clear hC0
          go_region_with (go_at_call 17; refine (all_any _).mono ?_; rintro e w7 ⟨rfl, hb7⟩; have hsz := hb7.size; obtain ⟨y0, y1, y2, y3⟩ := (hbs.drew.below hb7 hbs.lt).cells; have hN7 := bstep hN.drew hb7)
          all_goals
            go_wp2
            go_ret
            exact ⟨rfl, hN7⟩
        | false =>
          have c7 : (C ++ t).size ≤ 20000 := by rw [ByteArray.size_append]; omega
          have c8 : C.size + t.size ≤ 9223372036854775807 := by omega
          have c9 : ¬ (9223372036854775807 < C.size + t.size) := by omega
          go_region_with (go_at_call 17; refine (all_any _).mono ?_; rintro e w7 ⟨rfl, hb7⟩; have hsz := hb7.size; have hbs7 := hbs.drew.below hb7 hbs.lt; obtain ⟨y0, y1, y2, y3⟩ := hbs7.cells; have hN7 := bstep hN.drew hb7)
          all_goals
            go_wp2_with (go_at_call 14; with_reducible refine (HC1.out _ (by first | exact hN7 | exact hN7.drew) c7 hE).mono ?_; rintro e w8 ⟨rfl, hb8⟩; have hbs8 := (show Box4 w8 W.heap.size x from by first | exact hbs7.below hb8 hbs7.lt | exact hbs7.drew.below hb8 hbs7.lt); have hN8 := (show Below W.heap.size W w8 from by first | exact bstep hN7 hb8 | exact bstep hN7.drew hb8); have hN9 := hN8.alloc hN8.size (.cells #[.int .u64 x.a, .int .u64 x.b, .int .u64 x.c, .int .u64 x.d] 31); have hbs9 : Box4 (w8.alloc (.cells #[.int .u64 x.a, .int .u64 x.b, .int .u64 x.c, .int .u64 x.d] 31)) W.heap.size x := hbs8.more _; obtain ⟨q0, q1, q2, q3⟩ := hbs9.cells; obtain ⟨z0, z1, z2, z3⟩ := (Box4.new w8 x).cells)
            go_ret
            exact ⟨rfl, hN9⟩
    · have d1 : decide ((s.size : Int) ≤ 255) = false := by simp; omega
      go_enter Tryd.func5, Tryd.ntmps5
      go_wp2_with (first
        | (go_at_call 8; refine (awake_any HI.out hN).mono ?_; rintro e w1 ⟨rfl, hb1⟩; have hbs := hbs.below hb1 hbs.lt; have hN := bstep hN hb1; clear hb1)
        | (go_at_call 9; with_reducible refine (HA.out _ hN).mono ?_; rintro e w2 ⟨rfl, hb1⟩; have hbs := hbs.below hb1 hbs.lt; have hN := bstep hN hb1; clear hb1)
        | (go_at_call 9; with_reducible refine (HB.out _ hN).mono ?_; rintro e w3 ⟨rfl, hb1⟩; have hbs := hbs.below hb1 hbs.lt; have hN := bstep hN hb1; clear hb1; obtain ⟨x0, x1, x2, x3⟩ := hbs.cells)
        | (go_at_call 13; with_reducible refine (HC.out _ hN).mono ?_; rintro e w6 ⟨rfl, hb1⟩; have hbs := hbs.below hb1 hbs.lt; have hN := bstep hN hb1; clear hb1 x0 x1 x2 x3; obtain ⟨x0, x1, x2, x3⟩ := hbs.cells))
      cases hE : same4 x S4.nil.not with
      | true =>
        have hC0 := HCD.out hE
        have d3 : (C.toList == ByteArray.toList ⟨#[46]⟩) = true := by rw [hC0]; exact BEq.rfl
        have d4 : (C.toList == [46]) = true := by rw [hC0, ByteArray.toList_eq]; rfl
        clear hC0
        go_region_with (go_at_call 17; refine (all_any _).mono ?_; rintro e w7 ⟨rfl, hb7⟩; have hsz := hb7.size; obtain ⟨y0, y1, y2, y3⟩ := (hbs.drew.below hb7 hbs.lt).cells; have hN7 := bstep hN.drew hb7)
        all_goals
          go_wp2
          go_ret
          exact ⟨rfl, hN7⟩
      | false =>
        have c7 : (C ++ t).size ≤ 20000 := by rw [ByteArray.size_append]; omega
        have c8 : C.size + t.size ≤ 9223372036854775807 := by omega
        have c9 : ¬ (9223372036854775807 < C.size + t.size) := by omega
        go_region_with (go_at_call 17; refine (all_any _).mono ?_; rintro e w7 ⟨rfl, hb7⟩; have hsz := hb7.size; have hbs7 := hbs.drew.below hb7 hbs.lt; obtain ⟨y0, y1, y2, y3⟩ := hbs7.cells; have hN7 := bstep hN.drew hb7)
        all_goals
          go_wp2_with (go_at_call 14; with_reducible refine (HC1.out _ (by first | exact hN7 | exact hN7.drew) c7 hE).mono ?_; rintro e w8 ⟨rfl, hb8⟩; have hbs8 := (show Box4 w8 W.heap.size x from by first | exact hbs7.below hb8 hbs7.lt | exact hbs7.drew.below hb8 hbs7.lt); have hN8 := (show Below W.heap.size W w8 from by first | exact bstep hN7 hb8 | exact bstep hN7.drew hb8); have hN9 := hN8.alloc hN8.size (.cells #[.int .u64 x.a, .int .u64 x.b, .int .u64 x.c, .int .u64 x.d] 31); have hbs9 : Box4 (w8.alloc (.cells #[.int .u64 x.a, .int .u64 x.b, .int .u64 x.c, .int .u64 x.d] 31)) W.heap.size x := hbs8.more _; obtain ⟨q0, q1, q2, q3⟩ := hbs9.cells; obtain ⟨z0, z1, z2, z3⟩ := (Box4.new w8 x).cells)
          go_ret
          exact ⟨rfl, hN9⟩
  · have hd : decide ((5000 : Int) < ((s.size : Int) + (u.size : Int)) + (t.size : Int)) = true := by simp; omega
    go_enter Tryd.func5, Tryd.ntmps5
    go_wp2_with (go_at_call 8; refine (awake_any HI.out hN).mono ?_; rintro e w1 ⟨rfl, hb1⟩; have hN := bstep hN hb1)
    go_ret
    exact ⟨rfl, hN⟩
end Go.Proofs.YtjaklcmadkpmdaaDoor
