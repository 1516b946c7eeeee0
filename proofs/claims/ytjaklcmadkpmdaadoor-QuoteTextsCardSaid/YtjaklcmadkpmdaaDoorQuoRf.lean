/- The document's Unliteral: its loop. -/
import Derived.Test.YtjaklcmadkpmdaaDoorQuoRe
namespace Go.Proofs.YtjaklcmadkpmdaaDoor
open Go Go.RowKit Go.Shelf
set_option linter.unusedSimpArgs false
set_option linter.unusedVariables false
attribute [local go_sem] Oper.semAt_some

set_option maxRecDepth 100000 in
set_option maxHeartbeats 4000000 in
theorem runl_loop {W0 w : World} (hI : Inv W0) (hb0 : Below W0.heap.size W0 w) (t : ByteArray) (hs : t.size ≤ 20000) (h : 0 < t.size) (hq : t[0].toNat = 34) (n : Nat) (hn : t.size < n) :
    Calls Tryd.prog 11 #[.string t] w fun e w' => e = .returned (unlV (unl t 0 n)) ∧ Below w.heap.size w w' := by
  have hq0 : t[0] = 34 := UInt8.toNat_inj.1 hq
  have HU := Lib.hid (fun (pre : List UInt8) (f : Rd) (hl : (rd1 t).lit false 34 n = (pre, f)) => unl_rd1 h hq0 n hl)
  have he : t.toList.isEmpty = false := by
    rw [List.isEmpty_eq_false_iff]
    intro k
    rw [toList_nil_iff_emptyBytes] at k
    subst k
    exact absurd h (by decide)
  have hq1 : ((t[0].toNat : Int) != 34) = false := by rw [bne_eq_false_iff_eq]; omega
  obtain ⟨i0, hi, hz0, hz1, hz2⟩ := info_parts info_u8
  have HI := Lib.hid hI
  clear hq hq0 hI
  refine callsIn_wide.1 (?_ : CallsIn Fence.wide 2 _ _ _ _ _)
  refine callsIn_of_wp Tryd.func11 rfl trivial ?_ rfl
  simp only [Tryd.ntmps11, List.size_toArray, List.length_cons, List.length_nil, Nat.reduceAdd, Nat.reduceSub, Array.replicate_succ, Array.replicate_zero, List.push_toArray, List.append_toArray, List.nil_append, List.cons_append]
  gi_wp2_with fail
  clear hq1 he
  gi_loopw [5, 6] (fun v i wr => ∃ (s : Rd) (pre : List UInt8), i = .int .i64 s.at' ∧ (s.e = 0 ∧ s.text = t ∧ s.at' ≤ t.size ∧ Lit (rd1 t) pre s) ∧ wr.ownsRow w.heap.size 5 1 v pre.length (pre.map byteV) ∧ Below w.heap.size w wr) (fun v i _ => t.size - (intOf i).toNat)
  case atStart => exact ⟨rd1 t, [], rfl, ⟨rfl, rfl, h, Nat.zero_le _, fun M => by simp⟩, World.ownsRow_nil _ _ _ _, Below.refl _ _⟩
  case round =>
    obtain ⟨s, pre, rfl, hs1, hrow, hB⟩ := hrel
    have HS := Lib.hid hs1
    have hle := hs1.2.2.1
    clear hs1
    obtain ⟨va, vc, rfl⟩ := ownsRow_shape hrow
    have hpl : pre.length ≤ s.at' := HS.out.2.2.2.1
    have hb1 : Below W0.heap.size W0 wr := hb0.trans (hB.mono hb0.size)
    by_cases hlt : s.at' < t.size
    · have d1 : decide ((s.at' : Int) < (t.size : Int)) = true := by simp; omega
      have d2 : (s.at' : Int) < (t.size : Int) := by omega
      have d3 : decide (s.at' < t.size) = true := by simp; omega
      have g1 : decide ((t.size : Int) ≤ (s.at' : Int)) = false := by simp; omega
      have g2 : ¬ ((t.size : Int) ≤ (s.at' : Int)) := by omega
      have g3 : decide (t.size ≤ s.at') = false := by simp; omega
      have hc : s.cur = some t[s.at'] := by
        have hx := HS.out.2.1
        subst hx
        exact cur_at hlt
      by_cases h34 : t[s.at'].toNat = 34
      · have q1 : ((t[s.at'].toNat : Int) != 34) = false := by rw [bne_eq_false_iff_eq]; omega
        have hl := (HS.out.2.2.2).fin n (by omega) (f := s.up) (fun m => by
          rw [Rd.lit, hc]
          dsimp only
          rw [if_pos (UInt8.toNat_inj.1 h34)])
        have hU := HU.out pre s.up hl
        rw [if_neg (by show ¬ s.e ≠ 0; simpa using HS.out.1)] at hU
        clear h34 hc hl
        by_cases hl : 255 < pre.length
        · have l1 : decide ((255 : Int) < (pre.length : Int)) = true := by simp; omega
          have l2 : (255 : Int) < (pre.length : Int) := by omega
          have l4 : decide (255 < pre.length) = true := by simp; omega
          rw [if_pos hl] at hU
          have HU2 := Lib.hid hU
          clear hU
          gi_wp2
          refine bodyPost_ret (v := unlV (⟨#[]⟩, 0, 40)) (by simp [results, Tryd.results11, unlV, go_sem]) rfl ?_
          exact ⟨by rw [HU2.out], hB⟩
        · have l1 : decide ((255 : Int) < (pre.length : Int)) = false := by simp; omega
          have l2 : ¬ (255 : Int) < (pre.length : Int) := by omega
          have l4 : decide (255 < pre.length) = false := by simp; omega
          rw [if_neg hl] at hU
          have HU2 := Lib.hid hU
          clear hU
          have hcv := conv_own (W := wr) pre hrow
          gi_wp2
          refine bodyPost_ret (v := unlV (⟨pre.toArray⟩, s.up.at', 0)) (by simp [results, Tryd.results11, unlV, Rd.up, go_sem]) rfl ?_
          exact ⟨by rw [HU2.out], hB⟩
      · have q1 : ((t[s.at'].toNat : Int) != 34) = true := by rw [bne_iff_ne]; omega
        have hne : t[s.at'] ≠ 34 := fun k => h34 (by rw [k]; rfl)
        have hon := s.sign_on false (by rw [HS.out.2.1]; exact hle)
        have hlk := s.sign_like false
        have HR := Lib.hid (show Calls Tryd.prog 29 #[.string t, .int .i64 s.at', .string ⟨#[34, 92]⟩] wr fun e w' => e = .returned (sgV (s.sign false)) ∧ Below wr.heap.size wr w' from by
          have := rsign_any false HI.out hb1 s HS.out.1 (by rw [HS.out.2.1]; exact hle) (by rw [HS.out.2.1]; omega)
          rw [HS.out.2.1] at this
          exact this)
        obtain ⟨p, hp⟩ : ∃ p, p = s.sign false := ⟨_, rfl⟩
        rw [← hp] at hon hlk HR
        obtain ⟨x, u⟩ := p
        dsimp only at hon hlk
        have hut : u.text = t := hlk.1.trans HS.out.2.1
        have hul : u.at' ≤ t.size := by have := hon.1; rw [HS.out.2.1] at this; exact this
        have HP := Lib.hid hp
        have HC := Lib.hid hc
        clear hp hc h34
        by_cases hu : u.e = 0
        · have hV : sgV (x, u) = .tuple #[.int .u8 x.toNat, .int .i64 u.at', .int .i64 0] := sgV_ok hu
          rw [hV] at HR
          have hadv := hon.2 hu
          clear hon hlk hV g1 g2 g3
          gi_wp2_with fail
          refine ⟨trivial, (callsIn_wide.2 HR.out).mono ?_⟩
          rintro e w1 ⟨rfl, hb2⟩
          have hrow1 := ownsRow_of hrow (fun g h1 h2 => hb2.block g h2)
          gi_wp2_with (gi_at_builtin; refine wpListIn_append_own _ rfl _ _ 45 rfl w.heap.size 5 i0 (.int .u8 0) 1 1 Tryd.underlying45 hi hz0 hz1 hz2 rfl (by decide) _ _ _ rfl (hrow1.alloc _) ⟨w1.heap.size, 0, none⟩ 1 1 [.int .u8 x.toNat] rfl rfl (cell_one_new _ _ _) (by simp [Value.oneCell']) (by unfold maxLen; omega) (by omega) (by have := hB.size; have := hb2.size; simp; omega) ?_; intro v' w2 hown' hgrow _)
          replace hgrow : (World.alloc w1 _).grownBy w2 (Value.ownBlock (.slice va pre.length vc)) := hgrow
          have hB1 : Below w.heap.size w w1 := hB.trans (hb2.mono hB.size)
          have hB2 : Below w.heap.size w w2 := (hB1.alloc hB1.size _).grown hgrow (by have := hB1.size; simp; omega) (fun j ej => by
            rcases hrow1.2 with ⟨hv, _⟩ | ⟨g, cap, cur, hv, hg, _⟩
            · rw [hv] at ej; simp [Value.ownBlock] at ej
            · rw [hv] at ej
              obtain rfl : g = j := by simpa [Value.ownBlock] using ej
              exact hg)
          go_roundw
          case rel => exact ⟨u, pre ++ [x], rfl, ⟨hu, hut, hul, (HS.out.2.2.2).step HC.out hne (by rw [HS.out.2.1]; exact hle) HP.out.symm hu⟩, by simpa [byteV] using hown', hB2⟩
          case measure => simp [intOf]; omega
        · have hV : sgV (x, u) = .tuple #[.int .u8 0, .int .i64 u.at', .int .i64 u.e] := by unfold sgV; rw [if_neg hu]
          rw [hV] at HR
          have hu1 : ((u.e : Int) != 0) = true := by rw [bne_iff_ne]; omega
          have hl := (HS.out.2.2.2).fin n (by omega) (f := u) (fun m => by
            rw [Rd.lit, HC.out]
            dsimp only
            rw [if_neg hne, ← HP.out, if_pos hu])
          have hU := HU.out pre u hl
          rw [if_pos hu] at hU
          have HU2 := Lib.hid hU
          clear hon hlk hV hl hU g1 g2 g3
          gi_wp2_with fail
          refine ⟨trivial, (callsIn_wide.2 HR.out).mono ?_⟩
          rintro e w1 ⟨rfl, hb2⟩
          gi_wp2
          refine bodyPost_ret (v := unlV (⟨#[]⟩, u.at', u.e)) (by simp [results, Tryd.results11, unlV, go_sem]) rfl ?_
          exact ⟨by rw [HU2.out], hB.trans (hb2.mono hB.size)⟩
    · have d1 : decide ((s.at' : Int) < (t.size : Int)) = false := by simp; omega
      have d2 : ¬ (s.at' : Int) < (t.size : Int) := by omega
      have d3 : decide (s.at' < t.size) = false := by simp; omega
      have g1 : decide ((t.size : Int) ≤ (s.at' : Int)) = true := by simp; omega
      have g2 : (t.size : Int) ≤ (s.at' : Int) := by omega
      have g3 : decide (t.size ≤ s.at') = true := by simp; omega
      have hc : s.cur = none := by
        unfold Rd.cur
        rw [HS.out.2.1]
        exact Array.getElem?_eq_none (by show t.size ≤ s.at'; omega)
      have hl := (HS.out.2.2.2).fin n (by omega) (f := s.bad) (fun m => by
        rw [Rd.lit, hc])
      have hU := HU.out pre s.bad hl
      rw [if_pos s.bad_e] at hU
      have hV : unl t 0 n = (⟨#[]⟩, t.size, 8) := by
        rw [hU]
        unfold Rd.bad
        rw [HS.out.2.1, if_pos (by omega)]
        dsimp only
        rw [show s.at' = t.size by omega]
      have HU2 := Lib.hid hV
      clear hc hl hU hV
      gi_wp2
      refine bodyPost_ret (v := unlV (⟨#[]⟩, t.size, 8)) (by simp [results, Tryd.results11, unlV, go_sem]) rfl ?_
      exact ⟨by rw [HU2.out], hB⟩
end Go.Proofs.YtjaklcmadkpmdaaDoor
