/- The document's own Free: for every stem of 200 bytes at most, and whatever texts are used, 301 of them at most. -/
import Derived.Test.YtnonpolifipblaaDoorNamH
import Derived.Test.YtnonpolifipblaaDoorNamC
namespace Go.Proofs.YtnonpolifipblaaDoor
open Go.RowKit Go.Shelf

theorem str_eq {a b : ByteArray} {c : Bool} (h : decide (a = b) = c) : (a.toList == b.toList) = c := by
  subst h
  rw [ByteArray.toList_eq, ByteArray.toList_eq, Bool.eq_iff_iff, beq_iff_eq, decide_eq_true_eq]
  exact ⟨bytes_ext, fun e => by rw [e]⟩

/-- Is a text among these? -/
def inB (us : List ByteArray) (x : ByteArray) : Bool := us.any fun y => decide (y = x)
theorem inB_iff {us : List ByteArray} {x : ByteArray} : inB us x = true ↔ x ∈ us := by
  unfold inB
  rw [List.any_eq_true]
  exact ⟨fun ⟨y, hy, e⟩ => (of_decide_eq_true e) ▸ hy, fun h => ⟨x, h, by simp⟩⟩
theorem inB_next (us : List ByteArray) (x y : ByteArray) : inB (us ++ [y]) x = (inB us x || decide (y = x)) := by unfold inB; simp

theorem rmay_is {s : ByteArray} {b : Bool} (hs : s.size ≤ maxLen) (h : mayB s = b) (w : World) : Calls Tryd.prog 15 #[.string s] w fun e w' => e = .returned (.bool b) ∧ w' = w := by
  subst h
  exact rmay_any s hs w

set_option maxRecDepth 100000 in
set_option maxHeartbeats 1000000 in
theorem rfree_any (stem : ByteArray) (hs : stem.size ≤ 200) (us : List ByteArray) (hu : us.length ≤ 301) (v : Value) (B : Nat) (W : World) (hB : B ≤ W.heap.size) (hv : StrsAt B W v us) :
    Calls Tryd.prog 23 #[.string stem, v] W fun e W' => ∃ r, (e = .returned (.string r) ∧ IsFree stem us r) ∧ Below W.heap.size W W' := by
  obtain ⟨⟨p, cap, rfl, _, _, _, hcells⟩, hsz⟩ := hv
  have hz0 : stem.size ≤ maxLen := by unfold maxLen; omega
  cases hm : mayB stem with
  | false =>
    go_enter Tryd.func23, Tryd.ntmps23
    go_wp2_with (go_at_call 15; refine (rmay_is hz0 hm _).mono ?_; rintro e w' ⟨rfl, rfl⟩)
    go_ret
    exact ⟨_, ⟨rfl, 0, by omega, Had.zero _ _, .inl ⟨hm, rfl⟩⟩, Below.refl _ _⟩
  | true =>
    go_enter Tryd.func23, Tryd.ntmps23
    go_wp2_with fail
    refine (rmay_is hz0 hm _).mono ?_
    rintro e W ⟨rfl, rfl⟩
    go_wp2_with fail
    go_loopw [5, 6] (fun x i wr => ∃ k : Nat, k ≤ us.length ∧ x = .string (tryB stem k) ∧ i = .int .i64 ((k : Int) + 2) ∧ Had stem us k ∧ Below W.heap.size W wr)
      (fun _ i _ => us.length + 2 - (intOf i).toNat)
    case atStart => exact ⟨0, by omega, rfl, rfl, Had.zero _ _, Below.refl _ _⟩
    case round =>
      obtain ⟨k, hk, rfl, rfl, hh, hBr⟩ := hrel
      have hzk := try_size hs k
      have hcr : ∀ (i : Nat) (h : i < us.length), ∃ b off, p = some ⟨b, off, none⟩ ∧ wr.cell? ⟨b, off + i, none⟩ = some (.string us[i]) := fun i h => by
        obtain ⟨b, off, e, hb, hc⟩ := hcells i h
        exact ⟨b, off, e, (hBr.cell (p := ⟨b, off + i, none⟩) (by show b < W.heap.size; omega)).trans hc⟩
      cases hm2 : mayB (tryB stem k) with
      | false =>
        go_wp2_with fail
        refine (rmay_is hzk hm2 _).mono ?_
        rintro e wr ⟨rfl, rfl⟩
        go_wp2
        go_ret
        exact ⟨_, ⟨rfl, k, hk, hh, .inl ⟨hm2, rfl⟩⟩, hBr⟩
      | true =>
        go_wp2_with fail
        refine (rmay_is hzk hm2 _).mono ?_
        rintro e wr ⟨rfl, rfl⟩
        go_wp2_with fail
        go_loop [8, 7] (fun i h => ∃ j : Nat, j ≤ us.length ∧ i = .int .i64 j ∧ h = .bool (inB (us.take j) (tryB stem k)))
          (fun i _ => us.length - (intOf i).toNat)
        case atStart => exact ⟨0, by omega, rfl, rfl⟩
        case round =>
          obtain ⟨j, hj, rfl, rfl⟩ := hrel
          by_cases hlt : j < us.length
          · have hd : decide ((j : Int) < (us.length : Int)) = true := by simp; omega
            obtain ⟨b, off, rfl, hc⟩ := hcr j hlt
            cases hin : inB (us.take j) (tryB stem k) with
            | true =>
              go_wp2_with fail
              exact ⟨⟨j + 1, by omega, by go_num, by rw [List.take_succ_eq_append_getElem hlt, inB_next, hin]; rfl⟩, by simp [intOf]; omega⟩
            | false =>
              obtain ⟨c, hc2⟩ : ∃ c, decide (us[j] = tryB stem k) = c := ⟨_, rfl⟩
              have he := str_eq hc2
              go_wp2_with fail
              exact ⟨⟨j + 1, by omega, by go_num, by rw [List.take_succ_eq_append_getElem hlt, inB_next, hin, hc2]; rfl⟩, by simp [intOf]; omega⟩
          · have hd : decide ((j : Int) < (us.length : Int)) = false := by simp; omega
            obtain rfl : j = us.length := by omega
            rw [List.take_length]
            cases hin : inB us (tryB stem k) with
            | false =>
              have hnot : tryB stem k ∉ us := fun h => by rw [inB_iff.2 h] at hin; cases hin
              go_wp2_with fail
              refine bodyPost_ret (results_tmp rfl _ _ _) rfl ?_
              exact ⟨⟨_, rfl, k, hk, hh, .inr ⟨hm2, hnot, rfl⟩⟩, hBr⟩
            | true =>
              have hh2 := hh.next hm2 (inB_iff.1 hin)
              have hk2 := hh2.le (by omega)
              go_wp2_with fail
              refine (rshow_any _ (by omega) (by omega) _).mono ?_
              rintro e w3 ⟨rfl, hb3⟩
              have hsh := shB_short ((k : Int) + 2) (by omega) (by omega)
              have hcat : stem.size + (shB ((k : Int) + 2)).size ≤ maxLen := by unfold maxLen; omega
              go_wp2_with fail
              go_roundw
              case rel => exact ⟨k + 1, hk2, by rw [try_next, wrap_small (by omega) (by omega)], by go_num, hh2, hBr.trans (hb3.mono hBr.size)⟩
              case measure => simp [intOf]; omega
end Go.Proofs.YtnonpolifipblaaDoor
