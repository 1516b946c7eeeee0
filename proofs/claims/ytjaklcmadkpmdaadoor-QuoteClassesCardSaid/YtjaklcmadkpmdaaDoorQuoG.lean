/- The reader: one sign. -/
import Derived.Deep.RegionHeld3
import Derived.KernelRfl
import Derived.Test.YtjaklcmadkpmdaaDoorQuoH
import Derived.Laws.BitsAllLaws
namespace Go.Proofs.YtjaklcmadkpmdaaDoor
open Go Go.RowKit Go.Shelf
set_option linter.unusedSimpArgs false
set_option linter.unusedVariables false

theorem digit_nat (r : Rd) : ∃ (n : Nat) (r' : Rd), r.digit = ((n : Int), r') ∧ n < 16 := by
  have h : ∀ c : UInt8, 0 ≤ hexZ c → ∃ n : Nat, hexZ c = (n : Int) ∧ n < 16 := fun c h => by
    have := hexZ_lt c
    exact ⟨(hexZ c).toNat, by omega, by omega⟩
  unfold Rd.digit
  split
  · exact ⟨0, _, rfl, by omega⟩
  · split
    · rename_i c hc
      split
      · rename_i h0
        obtain ⟨n, hn, hl⟩ := h c h0
        exact ⟨n, _, by rw [hn], hl⟩
      · exact ⟨0, _, rfl, by omega⟩
    · exact ⟨0, _, rfl, by omega⟩

theorem two_digits : ∀ a : Nat, a < 16 → ∀ b : Nat, b < 16 → bits .or .u8 ((a : Int) * 16) (b : Int) = ((16 * a + b : Nat) : Int) := by
  intro a ha b hb
  have h := u8_or_nat (16 * a) b (by omega) (by omega)
  have e : ∀ a : Nat, a < 16 → ∀ b : Nat, b < 16 → 16 * a ||| b = 16 * a + b := by decide
  rw [e a ha b hb] at h
  rw [← h]
  congr 1
  omega

set_option maxRecDepth 100000 in
set_option maxHeartbeats 4000000 in
theorem sign_hex (cls : Bool) {W0 W : World} (hI : Inv W0) (hb0 : Below W0.heap.size W0 W) (b : Nat) (hb : W0.heap.size ≤ b) (r : Rd) (h : RdAt W b r) (hs : r.text.size ≤ 1000000000) (hr : r.bare = bareB cls) {c : UInt8} (hc : r.cur = some c) (hbg : beginsB cls c = true) (h92 : c.toNat = 92) (hn : r.up.next 120 = true) :
    Calls Tryd.prog 33 #[.pointer (some ⟨b, 0, none⟩)] W fun e w' => e = .returned (.int .u8 (UInt8.ofNat r.up.up.hex.1.toNat).toNat) ∧ RdAt w' b r.up.up.hex.2 ∧ Only b W w' := by
  obtain ⟨x0, x1, x2, x3, x4⟩ := h.cells
  obtain ⟨hlt, hce⟩ := cur_some hc
  subst hce
  have hx : ((r.text[r.at'].toNat : Int) != 92) = false := by rw [bne_eq_false_iff_eq]; omega
  clear h92
  have HNX := Lib.hid (show ∀ W : World, RdAt W b r.up → Calls Tryd.prog 32 #[.pointer (some ⟨b, 0, none⟩), .int .u8 120] W fun e w' => e = .returned (.bool true) ∧ Below W.heap.size W w' from fun W h => by have := next_any W b r.up h 120; rw [hn] at this; exact this)
  clear hn
  obtain ⟨n1, r5, hq1, hn1⟩ := digit_nat r.up.up
  obtain ⟨n2, r6, hq2, hn2⟩ := digit_nat r5
  have hs5 : r5.text.size ≤ 1000000000 := by have := r.up.up.digit_like.1; rw [hq1] at this; rw [this]; exact hs
  have HD1 := Lib.hid (show ∀ W : World, RdAt W b r.up.up → Below W0.heap.size W0 W → Calls Tryd.prog 50 #[.pointer (some ⟨b, 0, none⟩)] W fun e w' => e = .returned (.int .u8 n1) ∧ RdAt w' b r5 ∧ Only b W w' from fun W h hB => by have := digit_any hI hB b hb r.up.up h hs; rw [hq1] at this; exact this)
  have HD2 := Lib.hid (show ∀ W : World, RdAt W b r5 → Below W0.heap.size W0 W → Calls Tryd.prog 50 #[.pointer (some ⟨b, 0, none⟩)] W fun e w' => e = .returned (.int .u8 n2) ∧ RdAt w' b r6 ∧ Only b W w' from fun W h hB => by have := digit_any hI hB b hb r5 h hs5; rw [hq2] at this; exact this)
  have hres : r.up.up.hex = (((16 * n1 + n2 : Nat) : Int), r6) := by unfold Rd.hex; rw [hq1]; dsimp only; rw [hq2]; dsimp only; congr 1
  have hval : (UInt8.ofNat ((16 * n1 + n2 : Nat) : Int).toNat).toNat = 16 * n1 + n2 := by rw [Int.toNat_natCast, UInt8.toNat_ofNat']; omega
  have HOR := Lib.hid (two_digits n1 hn1 n2 hn2)
  rw [hres]
  dsimp only
  rw [hval]
  have hwr : wrap64 (((r.up).at' : Int) + 1) = ((r.up.at' + 1 : Nat) : Int) := by
    rw [show r.up.at' = r.at' + 1 from rfl, IntWalk.wrap64_in _ (by omega)]; rfl
  have hwu : IntKind.u8.wrap ((n1 : Int) * 2 ^ 4) = 16 * (n1 : Int) := by rw [IntKind.wrap_u8, Int.emod_eq_of_lt (by omega) (by omega)]; omega
  clear hq1 hq2 hres hval hs5
  have hd : decide ((r.text.size : Int) ≤ (r.at' : Int)) = false := by simp; omega
  have hd2 : ¬ ((r.text.size : Int) ≤ (r.at' : Int)) := by omega
  have hd3 : ((r.at' : Int) < (r.text.size : Int)) := by omega
  have hd4 : ¬ (r.text.size ≤ r.at') := by omega
  have hd5 : decide (r.text.size ≤ r.at') = false := by simp; omega
  have HB := Lib.hid (show ∀ W : World, RdAt W b r → Below W0.heap.size W0 W → Calls Tryd.prog 44 #[.pointer (some ⟨b, 0, none⟩), .int .u8 (r.text[r.at'].toNat)] W fun e w' => e = .returned (.bool true) ∧ Below W.heap.size W w' from fun W h hb => by have := begins_any cls hI hb b r h hr r.text[r.at']; rw [hbg] at this; exact this)
  have HI := Lib.hid hI
  have HD : RdAt W.drew b r := h
  have HE := Lib.hid hb0.drew
  clear hbg hI hc
  go_enter Tryd.func33, Tryd.ntmps33
  go_wp2_with fail
  refine wp_region_held_drew (S := (fun w' => w'.cell? ⟨b, 0, none⟩ = some (.string r.text) ∧ w'.cell? ⟨b, 1, none⟩ = some (.string r.bare) ∧ w'.cell? ⟨b, 2, none⟩ = some r.mp ∧ w'.cell? ⟨b, 3, none⟩ = some (.int .i64 r.at') ∧ w'.cell? ⟨b, 4, none⟩ = some (.int .i64 r.e))) (by kernel_rfl) ⟨x0, x1, x2, x3, x4⟩ (fun hHeld => ?_)
  refine wpAnyH_take (i := 0) (v := ?_) rfl (by kernel_rfl) (by kernel_rfl) (by kernel_rfl) (fun _ _ _ h => h) (Or.inl ⟨by kernel_rfl, ?_⟩) (by assumption) ?_
  rotate_left
  · (intro w hSw; (try dsimp only at hSw); go_simp; (try with_reducible rfl))
  try simp only [Act.put, List.getElem_toArray, List.getElem_cons_zero, List.getElem_cons_succ, List.setIfInBounds_toArray, List.set_cons_zero, List.set_cons_succ]
  refine wpAnyH_take (i := 1) (v := ?_) rfl (by kernel_rfl) (by kernel_rfl) (by kernel_rfl) (fun _ _ _ h => h) (Or.inl ⟨by kernel_rfl, ?_⟩) (by assumption) ?_
  rotate_left
  · (intro w hSw; (try dsimp only at hSw); go_simp; (try with_reducible rfl))
  try simp only [Act.put, List.getElem_toArray, List.getElem_cons_zero, List.getElem_cons_succ, List.setIfInBounds_toArray, List.set_cons_zero, List.set_cons_succ]
  refine wpAnyH_take (i := 2) (v := ?_) rfl (by kernel_rfl) (by kernel_rfl) (by kernel_rfl) (fun _ _ _ h => h) (Or.inl ⟨by kernel_rfl, ?_⟩) (by assumption) ?_
  rotate_left
  · (intro w hSw; (try dsimp only at hSw); go_simp; (try with_reducible rfl))
  try simp only [Act.put, List.getElem_toArray, List.getElem_cons_zero, List.getElem_cons_succ, List.setIfInBounds_toArray, List.set_cons_zero, List.set_cons_succ]
  refine wpAnyH_take (i := 3) (v := ?_) rfl (by kernel_rfl) (by kernel_rfl) (by kernel_rfl) (fun _ _ _ h => h) (Or.inl ⟨by kernel_rfl, ?_⟩) (by assumption) ?_
  rotate_left
  · (intro w hSw; (try dsimp only at hSw); go_simp; (try with_reducible rfl))
  try simp only [Act.put, List.getElem_toArray, List.getElem_cons_zero, List.getElem_cons_succ, List.setIfInBounds_toArray, List.set_cons_zero, List.set_cons_succ]
  refine wpAnyH_take (i := 4) (v := ?_) rfl (by kernel_rfl) (by kernel_rfl) (by kernel_rfl) (fun _ _ _ h => h) (Or.inl ⟨by kernel_rfl, ?_⟩) (by assumption) ?_
  rotate_left
  · (intro w hSw; (try dsimp only at hSw); go_simp; (try with_reducible rfl))
  try simp only [Act.put, List.getElem_toArray, List.getElem_cons_zero, List.getElem_cons_succ, List.setIfInBounds_toArray, List.set_cons_zero, List.set_cons_succ]
  refine wpAnyH_take (i := 5) (v := ?_) rfl (by kernel_rfl) (by kernel_rfl) (by kernel_rfl) (fun _ _ _ h => h) (Or.inl ⟨by kernel_rfl, ?_⟩) (by assumption) ?_
  rotate_left
  · (intro w hSw; (try dsimp only at hSw); go_simp; (try with_reducible rfl))
  try simp only [Act.put, List.getElem_toArray, List.getElem_cons_zero, List.getElem_cons_succ, List.setIfInBounds_toArray, List.set_cons_zero, List.set_cons_succ]
  refine wpAnyH_take (i := 6) (v := ?_) rfl (by kernel_rfl) (by kernel_rfl) (by kernel_rfl) (fun _ _ _ h => h) (Or.inl ⟨by kernel_rfl, ?_⟩) (by assumption) ?_
  rotate_left
  · (intro w hSw; (try dsimp only at hSw); go_simp; (try with_reducible rfl))
  try simp only [Act.put, List.getElem_toArray, List.getElem_cons_zero, List.getElem_cons_succ, List.setIfInBounds_toArray, List.set_cons_zero, List.set_cons_succ]
  refine wpAnyH_take (i := 7) (v := ?_) rfl (by kernel_rfl) (by kernel_rfl) (by kernel_rfl) (fun _ _ _ h => h) (Or.inl ⟨by kernel_rfl, ?_⟩) (by assumption) ?_
  rotate_left
  · (intro w hSw; (try dsimp only at hSw); go_simp; (try with_reducible rfl))
  try simp only [Act.put, List.getElem_toArray, List.getElem_cons_zero, List.getElem_cons_succ, List.setIfInBounds_toArray, List.set_cons_zero, List.set_cons_succ]
  refine wpAnyH_take (i := 8) (v := ?_) rfl (by kernel_rfl) (by kernel_rfl) (by kernel_rfl) (fun _ _ _ h => h) (Or.inl ⟨by kernel_rfl, ?_⟩) (by assumption) ?_
  rotate_left
  · (intro w hSw; (try dsimp only at hSw); go_simp; (try with_reducible rfl))
  try simp only [Act.put, List.getElem_toArray, List.getElem_cons_zero, List.getElem_cons_succ, List.setIfInBounds_toArray, List.set_cons_zero, List.set_cons_succ]
  refine wpAnyH_take (i := 9) (v := ?_) rfl (by kernel_rfl) (by kernel_rfl) (by kernel_rfl) (fun _ _ _ h => h) (Or.inl ⟨by kernel_rfl, ?_⟩) (by assumption) ?_
  rotate_left
  · (intro w hSw; (try dsimp only at hSw); go_simp; (try with_reducible rfl))
  try simp only [Act.put, List.getElem_toArray, List.getElem_cons_zero, List.getElem_cons_succ, List.setIfInBounds_toArray, List.set_cons_zero, List.set_cons_succ]
  refine wpAnyH_take (i := 10) (v := ?_) rfl (by kernel_rfl) (by kernel_rfl) (by kernel_rfl) (fun _ _ _ h => h) (Or.inl ⟨by kernel_rfl, ?_⟩) (by assumption) ?_
  rotate_left
  · (intro w hSw; (try dsimp only at hSw); go_simp; (try with_reducible rfl))
  try simp only [Act.put, List.getElem_toArray, List.getElem_cons_zero, List.getElem_cons_succ, List.setIfInBounds_toArray, List.set_cons_zero, List.set_cons_succ]
  refine wpAnyH_take (i := 11) (v := ?_) rfl (by kernel_rfl) (by kernel_rfl) (by kernel_rfl) (fun _ _ _ h => h) (Or.inl ⟨by kernel_rfl, ?_⟩) (by assumption) ?_
  rotate_left
  · (intro w hSw; (try dsimp only at hSw); go_simp; (try with_reducible rfl))
  try simp only [Act.put, List.getElem_toArray, List.getElem_cons_zero, List.getElem_cons_succ, List.setIfInBounds_toArray, List.set_cons_zero, List.set_cons_succ]
  refine wpAnyH_take (i := 12) (v := ?_) rfl (by kernel_rfl) (by kernel_rfl) (by kernel_rfl) (fun _ _ _ h => h) (Or.inl ⟨by kernel_rfl, ?_⟩) (by assumption) ?_
  rotate_left
  · (intro w hSw; (try dsimp only at hSw); go_simp; (try with_reducible rfl))
  try simp only [Act.put, List.getElem_toArray, List.getElem_cons_zero, List.getElem_cons_succ, List.setIfInBounds_toArray, List.set_cons_zero, List.set_cons_succ]
  refine wpAnyH_take (i := 13) (v := ?_) rfl (by kernel_rfl) (by kernel_rfl) (by kernel_rfl) (fun _ _ _ h => h) (Or.inl ⟨by kernel_rfl, ?_⟩) (by assumption) ?_
  rotate_left
  · (intro w hSw; (try dsimp only at hSw); go_simp; (try with_reducible rfl))
  try simp only [Act.put, List.getElem_toArray, List.getElem_cons_zero, List.getElem_cons_succ, List.setIfInBounds_toArray, List.set_cons_zero, List.set_cons_succ]
  refine wpAnyH_take (i := 14) (v := ?_) rfl (by kernel_rfl) (by kernel_rfl) (by kernel_rfl) (fun _ _ _ h => h) (Or.inl ⟨by kernel_rfl, ?_⟩) (by assumption) ?_
  rotate_left
  · (intro w hSw; (try dsimp only at hSw); go_simp; (try with_reducible rfl))
  try simp only [Act.put, List.getElem_toArray, List.getElem_cons_zero, List.getElem_cons_succ, List.setIfInBounds_toArray, List.set_cons_zero, List.set_cons_succ]
  refine wpAnyH_take (i := 15) (v := ?_) rfl (by kernel_rfl) (by kernel_rfl) (by kernel_rfl) (fun _ _ _ h => h) (Or.inl ⟨by kernel_rfl, ?_⟩) (by assumption) ?_
  rotate_left
  · (intro w hSw; (try dsimp only at hSw); go_simp; (try with_reducible rfl))
  try simp only [Act.put, List.getElem_toArray, List.getElem_cons_zero, List.getElem_cons_succ, List.setIfInBounds_toArray, List.set_cons_zero, List.set_cons_succ]
  refine wpAnyH_take (i := 16) (v := ?_) rfl (by kernel_rfl) (by kernel_rfl) (by kernel_rfl) (fun _ _ _ h => h) (Or.inl ⟨by kernel_rfl, ?_⟩) (by assumption) ?_
  rotate_left
  · (intro w hSw; (try dsimp only at hSw); go_simp; (try with_reducible rfl))
  try simp only [Act.put, List.getElem_toArray, List.getElem_cons_zero, List.getElem_cons_succ, List.setIfInBounds_toArray, List.set_cons_zero, List.set_cons_succ]
  refine wpAnyH_take (i := 17) (v := ?_) rfl (by kernel_rfl) (by kernel_rfl) (by kernel_rfl) (fun _ _ _ h => h) (Or.inl ⟨by kernel_rfl, ?_⟩) (by assumption) ?_
  rotate_left
  · (intro w hSw; (try dsimp only at hSw); go_simp; (try with_reducible rfl))
  try simp only [Act.put, List.getElem_toArray, List.getElem_cons_zero, List.getElem_cons_succ, List.setIfInBounds_toArray, List.set_cons_zero, List.set_cons_succ]
  refine wpAnyH_take (i := 18) (v := ?_) rfl (by kernel_rfl) (by kernel_rfl) (by kernel_rfl) (fun _ _ _ h => h) (Or.inl ⟨by kernel_rfl, ?_⟩) (by assumption) ?_
  rotate_left
  · (intro w hSw; (try dsimp only at hSw); go_simp; (try with_reducible rfl))
  try simp only [Act.put, List.getElem_toArray, List.getElem_cons_zero, List.getElem_cons_succ, List.setIfInBounds_toArray, List.set_cons_zero, List.set_cons_succ]
  refine wpAnyH_take (i := 19) (v := ?_) rfl (by kernel_rfl) (by kernel_rfl) (by kernel_rfl) (fun _ _ _ h => h) (Or.inl ⟨by kernel_rfl, ?_⟩) (by assumption) ?_
  rotate_left
  · (intro w hSw; (try dsimp only at hSw); go_simp; (try with_reducible rfl))
  try simp only [Act.put, List.getElem_toArray, List.getElem_cons_zero, List.getElem_cons_succ, List.setIfInBounds_toArray, List.set_cons_zero, List.set_cons_succ]
  refine wpAnyH_take (i := 20) (v := ?_) rfl (by kernel_rfl) (by kernel_rfl) (by kernel_rfl) (fun _ _ _ h => h) (Or.inl ⟨by kernel_rfl, ?_⟩) (by assumption) ?_
  rotate_left
  · (intro w hSw; (try dsimp only at hSw); go_simp; (try with_reducible rfl))
  try simp only [Act.put, List.getElem_toArray, List.getElem_cons_zero, List.getElem_cons_succ, List.setIfInBounds_toArray, List.set_cons_zero, List.set_cons_succ]
  refine wpAnyH_ready (rs := [21]) (by kernel_rfl) (by simp) (AllReadyH.cons rfl (fun K hK => ?_) AllReadyH.nil)
  go_simp
  go_at_call 44
  refine (HB.out _ HD HE.out).mono ?_
  rintro e w1 ⟨rfl, hb1⟩
  have h1 := HD.below hb1 HD.lt
  have hO1 : Only b W w1 := (Only.of (Below.refl _ _).drew).trans (Only.of hb1)
  have hBw := below_only hb0 hb hO1
  refine hK.out _ _ h1.cells (fun hHeld => ?_)
  clear hK K
  try simp only [Act.put, List.getElem_toArray, List.getElem_cons_zero, List.getElem_cons_succ, List.setIfInBounds_toArray, List.set_cons_zero, List.set_cons_succ]
  refine wpAnyH_take (i := 22) (v := ?_) rfl (by kernel_rfl) (by kernel_rfl) (by kernel_rfl) (fun _ _ _ h => h) (Or.inl ⟨by kernel_rfl, ?_⟩) (by assumption) ?_
  rotate_left
  · (intro w hSw; (try dsimp only at hSw); go_simp; (try with_reducible rfl))
  try simp only [Act.put, List.getElem_toArray, List.getElem_cons_zero, List.getElem_cons_succ, List.setIfInBounds_toArray, List.set_cons_zero, List.set_cons_succ]
  refine wpAnyH_take (i := 23) (v := ?_) rfl (by kernel_rfl) (by kernel_rfl) (by kernel_rfl) (fun _ _ _ h => h) (Or.inl ⟨by kernel_rfl, ?_⟩) (by assumption) ?_
  rotate_left
  · (intro w hSw; (try dsimp only at hSw); go_simp; (try with_reducible rfl))
  try simp only [Act.put, List.getElem_toArray, List.getElem_cons_zero, List.getElem_cons_succ, List.setIfInBounds_toArray, List.set_cons_zero, List.set_cons_succ]
  refine wpAnyH_done (by kernel_rfl) ?_ _
  obtain ⟨y0, y1, y2, y3, y4⟩ := h1.cells
  clear x0 x1 x2 x3 x4 hHeld HB HD HE hb1 hd hd2 hd4 hd5
  obtain ⟨f3, f4⟩ := h1.free
  have h2 : RdAt (w1.setCell ⟨b, 3, none⟩ (.int .i64 ((r.at' : Int) + 1))).drew b r.up := by have q := h1.setAt (r.at' + 1); simp only [Int.natCast_add, Int.natCast_one] at q; exact q
  have hO2 : Only b W (w1.setCell ⟨b, 3, none⟩ (.int .i64 ((r.at' : Int) + 1))).drew := (hO1.setCell 3 _).trans (Only.of (Below.refl _ _).drew)
  go_wp2_with fail
  go_region
  all_goals
    go_wp2_with (first
      | (go_at_call 32; refine (HNX.out _ h2).mono ?_; rintro e w3 ⟨rfl, hb3⟩; have h3 := h2.below hb3 h2.lt; have hO3 := hO2.trans (Only.of hb3); obtain ⟨z0, z1, z2, z3, z4⟩ := h3.cells; obtain ⟨g3, g4⟩ := h3.free)
      | (go_at_call 50; rw [hwr]; have h4 := h3.setAt (r.up.at' + 1); have hO4 := hO3.setCell 3 (.int .i64 ((r.up.at' + 1 : Nat) : Int)); refine (HD1.out _ h4 (below_only hb0 hb hO4)).mono ?_; rintro e w5 ⟨rfl, h5, hO5⟩; have hO6 := hO4.trans hO5)
      | (go_at_call 50; refine (HD2.out _ h5 (below_only hb0 hb hO6)).mono ?_; rintro e w7 ⟨rfl, h7, hO7⟩; have hO8 := hO6.trans hO7))
    go_ret
    exact ⟨congrArg (fun x => Ending.returned (Value.int IntKind.u8 x)) HOR.out, h7, hO8⟩
end Go.Proofs.YtjaklcmadkpmdaaDoor
