/- The examples that each statement of the layer asks: they are as they are told. -/
import Derived.Test.YtolhignlofonjaaDoorSetC
namespace Go.Proofs.YtolhignlofonjaaDoor
open Go.RowKit Go.Shelf

set_option maxHeartbeats 1000000 in
@[go_sem] theorem eq2 (a b a' b' : Int) (w : World) : (Op.equalIn 10000 37 (.agg #[.int .u8 a, .int .u8 b]) (.agg #[.int .u8 a', .int .u8 b'])).run Tryd.prog w = .ok (a == a' && b == b') w := by
  have u3 := Tryd.underlying5
  have a3 := Tryd.isAgg5
  have z3 := Tryd.sizeOf5
  rw [show (10000 : Nat) = 9999 + 1 from rfl, Op.equalIn]
  simp only [Sem.run_bind, run_underlying Tryd.underlying37, Result.andThen_ok]
  simp only [Std.Legacy.Range.forIn_eq_forIn_range', Std.Legacy.Range.size, Nat.sub_zero, Nat.add_sub_cancel, Nat.div_one, List.range'_succ, List.range'_zero, List.forIn_cons, List.forIn_nil]
  go_simp
  by_cases h1 : a = a' <;> by_cases h2 : b = b' <;> simp [h1, h2]

theorem lt_of_cell {w : World} {b o : Nat} {v : Value} (h : w.cell? ⟨b, o, none⟩ = some v) : b < w.heap.size := by
  unfold World.cell? at h
  split at h
  · rename_i heq; exact (Array.getElem?_eq_some_iff.1 heq).1
  · cases h
/-- The set of a few bytes. -/
def lit (l : List Nat) : S4 := S4.nil.ofL l
theorem ok_lit (l : List Nat) : (lit l).ok := S4.ok_ofL l S4.ok_nil
theorem of_lit (l : List UInt8) (m : List Nat) (hm : l.map UInt8.toNat = m) (hl : l.length ≤ maxLen) (w : World) :
    Calls Tryd.prog 8 #[.string ⟨l.toArray⟩] w fun e w' => e = .returned (lit m).v ∧ Below w.heap.size w w' := by
  subst hm
  exact of_any ⟨l.toArray⟩ hl w

set_option maxRecDepth 100000 in
set_option maxHeartbeats 4000000 in
theorem awake_any (w : World) (hT : Tab w) :
    Calls Tryd.prog 5 #[] w fun e w' => e = .returned (.bool true) ∧ Below w.heap.size w w' := by
  have k1 : (lit [98, 97]).lst.length = 2 := by decide +kernel
  have k2 : lstB (lit [98, 97]) = [97, 98] := by decide +kernel
  have k3 : rs [97, 98] = [(97, 98)] := by decide +kernel
  have k4 : (S4.nil.not).lst.length = 256 := by decide +kernel
  have k5 : Lib.compareBytes (lstB (lit [97])) (lstB (lit [97, 98])) = -1 := by decide +kernel
  have k6 : Lib.compareBytes (lstB (lit [98])) (lstB (lit [97, 99])) = 1 := by decide +kernel
  have k7 : sm S4.nil.a S4.nil.b S4.nil.c S4.nil.d 0 0 0 0 = true := by decide +kernel
  have K1 := Lib.hid k1
  have K2 := Lib.hid k2
  have K3 := Lib.hid k3
  have K4 := Lib.hid k4
  have K5 := Lib.hid k5
  have K6 := Lib.hid k6
  clear k1 k2 k3 k4 k5 k6
  have hB : Below w.heap.size w w := Below.refl _ _
  go_enter Tryd.func5, Tryd.ntmps5
  go_wp2_with fail
  refine (of_lit [98, 97] [98, 97] rfl (by decide) _).mono ?_
  rintro e w1 ⟨rfl, hb⟩
  have hB1 := bstep hB hb
  have hT1 := hT.step hb
  clear hb hB
  go_wp2_with fail
  have bX := Box4.new w1 (lit [98, 97])
  have hB1 := hB1.alloc hB1.size (.cells #[.int .u64 (lit [98, 97]).a, .int .u64 (lit [98, 97]).b, .int .u64 (lit [98, 97]).c, .int .u64 (lit [98, 97]).d] 24)
  have hT1 : Tab (w1.alloc (.cells #[.int .u64 (lit [98, 97]).a, .int .u64 (lit [98, 97]).b, .int .u64 (lit [98, 97]).c, .int .u64 (lit [98, 97]).d] 24)) := hT1.below ((Below.refl _ w1).alloc (Nat.le_refl _) _) hT1.lt
  refine (of_lit [120] [120] rfl (by decide) _).mono ?_
  rintro e w2 ⟨rfl, hb⟩
  have hB2 := bstep hB1 hb
  have hT2 := hT1.step hb
  have bX := bX.below hb bX.lt
  clear hb
  go_wp2_with fail
  refine (only_yes (lit [120]) (ok_lit _) 120 (by decide +kernel) _ hT2).mono ?_
  rintro e w3 ⟨rfl, hb⟩
  have hB3 := bstep hB2 hb
  have hT3 := hT2.step hb
  have bX := bX.below hb bX.lt
  clear hb
  go_wp2_with fail
  refine (of_lit [120, 121] [120, 121] rfl (by decide) _).mono ?_
  rintro e w4 ⟨rfl, hb⟩
  have hB4 := bstep hB3 hb
  have hT4 := hT3.step hb
  have bX := bX.below hb bX.lt
  clear hb
  go_wp2_with fail
  refine (only_no (lit [120, 121]) (ok_lit _) (by decide +kernel) _).mono ?_
  rintro e w5 ⟨rfl, hb⟩
  have hB5 := bstep hB4 hb
  have hT5 := hT4.step hb
  have bX := bX.below hb bX.lt
  clear hb
  obtain ⟨c0, c1, c2, c3⟩ := bX.cells
  go_wp2_with fail
  refine (runs_any (lit [98, 97]) (ok_lit _) _ hT5).mono ?_
  rintro e w6 ⟨v, rfl, hrow, hb⟩
  have hB6 := bstep hB5 hb
  have hT6 := hT5.step hb
  have bX := bX.below hb bX.lt
  clear hb c0 c1 c2 c3
  rw [K2.out, K3.out] at hrow
  have hrow : w6.ownsRow w5.heap.size 37 2 v 1 [.int .u8 97, .int .u8 98] := hrow
  obtain ⟨g, cap, rfl⟩ := ownsRow_succ hrow
  have r0 := hrow.cellAt 0 (by decide)
  have r1 := hrow.cellAt 1 (by decide)
  have r0 : w6.cell? ⟨g, 0, none⟩ = some (.int .u8 97) := r0
  have r1 : w6.cell? ⟨g, 1, none⟩ = some (.int .u8 98) := r1
  have hgl : g < w6.heap.size := lt_of_cell r0
  obtain ⟨c0, c1, c2, c3⟩ := bX.cells
  go_wp2_with fail
  refine (len_any (lit [98, 97]) (ok_lit _) _).mono ?_
  rintro e w7 ⟨rfl, hb⟩
  have hB7 := bstep hB6 hb
  have hT7 := hT6.step hb
  have bX := bX.below hb bX.lt
  have r0 := (hb.cell (p := ⟨g, 0, none⟩) hgl).trans r0
  have r1 := (hb.cell (p := ⟨g, 1, none⟩) hgl).trans r1
  have hgl := Nat.lt_of_lt_of_le hgl hb.size
  clear hb
  rw [K1.out]
  clear c0 c1 c2 c3
  obtain ⟨c0, c1, c2, c3⟩ := bX.cells
  go_wp2_with fail
  refine (list_any (lit [98, 97]) (ok_lit _) _ hT7).mono ?_
  rintro e w8 ⟨rfl, hb⟩
  have hB8 := bstep hB7 hb
  have hT8 := hT7.step hb
  have bX := bX.below hb bX.lt
  have r0 := (hb.cell (p := ⟨g, 0, none⟩) hgl).trans r0
  have r1 := (hb.cell (p := ⟨g, 1, none⟩) hgl).trans r1
  have hgl := Nat.lt_of_lt_of_le hgl hb.size
  clear hb
  rw [K2.out]
  clear c0 c1 c2 c3
  go_wp2_with fail
  refine (range_any 122 97 (by decide) (by decide) _).mono ?_
  rintro e w9 ⟨rfl, hb⟩
  have hB9 := bstep hB8 hb
  have hT9 := hT8.step hb
  have bX := bX.below hb bX.lt
  clear hb
  rw [show S4.nil.ofL (List.range' 122 (97 + 1 - 122)) = S4.nil from rfl]
  go_wp2_with fail
  rw [← nil_v]
  refine (not_any S4.nil S4.ok_nil _).mono ?_
  rintro e w10 ⟨rfl, hb⟩
  have hB10 := bstep hB9 hb
  have hT10 := hT9.step hb
  have bX := bX.below hb bX.lt
  clear hb
  go_wp2_with fail
  refine (all_any _).mono ?_
  rintro e w11 ⟨rfl, hb⟩
  have hB11 := bstep hB10 hb
  have hT11 := hT10.step hb
  have bX := bX.below hb bX.lt
  clear hb
  go_wp2_with fail
  refine (all_any _).mono ?_
  rintro e w12 ⟨rfl, hb⟩
  have hB12 := bstep hB11 hb
  have hT12 := hT11.step hb
  have bX := bX.below hb bX.lt
  clear hb
  go_wp2_with fail
  refine (len_any S4.nil.not (S4.ok_not S4.ok_nil) _).mono ?_
  rintro e w13 ⟨rfl, hb⟩
  have hB13 := bstep hB12 hb
  have hT13 := hT12.step hb
  have bX := bX.below hb bX.lt
  clear hb
  rw [K4.out]
  go_wp2_with fail
  refine (of_lit [97] [97] rfl (by decide) _).mono ?_
  rintro e w14 ⟨rfl, hb⟩
  have hB14 := bstep hB13 hb
  have hT14 := hT13.step hb
  have bX := bX.below hb bX.lt
  clear hb
  go_wp2_with fail
  refine (of_lit [97, 98] [97, 98] rfl (by decide) _).mono ?_
  rintro e w15 ⟨rfl, hb⟩
  have hB15 := bstep hB14 hb
  have hT15 := hT14.step hb
  have bX := bX.below hb bX.lt
  clear hb
  go_wp2_with fail
  refine (compare_other (lit [97]) (lit [97, 98]) (ok_lit _) (ok_lit _) (by decide +kernel) _ hT15).mono ?_
  rintro e w16 ⟨rfl, hb⟩
  have hB16 := bstep hB15 hb
  have hT16 := hT15.step hb
  have bX := bX.below hb bX.lt
  clear hb
  rw [K5.out]
  go_wp2_with fail
  refine (of_lit [98] [98] rfl (by decide) _).mono ?_
  rintro e w17 ⟨rfl, hb⟩
  have hB17 := bstep hB16 hb
  have hT17 := hT16.step hb
  have bX := bX.below hb bX.lt
  clear hb
  go_wp2_with fail
  refine (of_lit [97, 99] [97, 99] rfl (by decide) _).mono ?_
  rintro e w18 ⟨rfl, hb⟩
  have hB18 := bstep hB17 hb
  have hT18 := hT17.step hb
  have bX := bX.below hb bX.lt
  clear hb
  go_wp2_with fail
  refine (compare_other (lit [98]) (lit [97, 99]) (ok_lit _) (ok_lit _) (by decide +kernel) _ hT18).mono ?_
  rintro e w19 ⟨rfl, hb⟩
  have hB19 := bstep hB18 hb
  have hT19 := hT18.step hb
  have bX := bX.below hb bX.lt
  clear hb
  rw [K6.out]
  go_wp2_with fail
  go_ret
  exact ⟨rfl, hB19⟩
end Go.Proofs.YtolhignlofonjaaDoor
