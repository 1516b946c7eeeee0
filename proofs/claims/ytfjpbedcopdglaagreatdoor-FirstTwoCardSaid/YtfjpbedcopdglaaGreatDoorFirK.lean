/- The document's own List of a set: for every set. -/
import Derived.OwnWalkIn
import Derived.TacticsInMore
import Derived.Maps.AppendAt
import Derived.Lib.BufferRead
import Derived.Laws.IdiomStrings
import Derived.Laws.AppendOwn
import Derived.Test.YtfjpbedcopdglaaGreatDoorFirH
namespace Go.Proofs.YtfjpbedcopdglaaGreatDoor
open Go.RowKit Go.Shelf

/-- The bytes of a set. -/
def lstB (s : S4) : List UInt8 := s.lst.map UInt8.ofNat
theorem lstB_len (s : S4) : (lstB s).length = s.lst.length := by simp [lstB]
theorem info_u8 : (Tryz.prog.info? 5).map (fun i => (i.zero, i.size, i.bytes)) = some (some (.int .u8 0), 1, 1) := by kernel_rfl
/-- A byte, as Go holds it. -/
def byteV (x : UInt8) : Value := .int .u8 x.toNat

theorem conv_own {W : World} {B : Nat} {v : Value} (l : List UInt8) (h : W.ownsRow B 5 1 v l.length (l.map byteV)) :
    (convert 83 9 v).run Tryz.prog W = .ok (.string ⟨l.toArray⟩) W := by
  have h' := h
  obtain ⟨h1, ⟨rfl, h0⟩ | ⟨g, cap, cur, rfl, hg, hh, hn, hc, hsz, ht⟩⟩ := h
  · obtain rfl : l = [] := List.length_eq_zero_iff.1 h0
    exact Lib.run_convert_nil_bytes W _ _ 5 0 Tryz.underlying83 Tryz.underlying5 Tryz.underlying9
  · refine run_convert_bytes_back W _ _ 5 ⟨g, 0, none⟩ cap l Tryz.underlying83 Tryz.underlying5 Tryz.underlying9 fun j hj => ?_
    exact h'.cells rfl j _ (by simp [byteV, hj])

theorem ownBelow {w w' : World} {B e size n : Nat} {v : Value} {xs : List Value} (h : w.ownsRow B e size v n xs) (hb : Below w.heap.size w w') : w'.ownsRow B e size v n xs := by
  refine ⟨h.1, ?_⟩
  rcases h.2 with hn | ⟨g, cap, cur, rfl, hg, hgg, rest⟩
  · exact .inl hn
  · exact .inr ⟨g, cap, cur, rfl, hg, by rw [hb.block g (Array.getElem?_eq_some_iff.1 hgg).1]; exact hgg, rest⟩
theorem ownNot {w : World} {B e size n b : Nat} {v : Value} {xs : List Value} (h : w.ownsRow B e size v n xs) (hb : b < B) : some b ≠ v.ownBlock := by
  rcases h.2 with ⟨rfl, _⟩ | ⟨g, cap, cur, rfl, hg, _⟩
  · simp [Value.ownBlock]
  · simp [Value.ownBlock]; omega
theorem ownAt {w : World} {B e size n : Nat} {v : Value} {xs : List Value} (h : w.ownsRow B e size v n xs) : ∀ k, v.ownBlock = some k → B ≤ k := by
  rcases h.2 with ⟨rfl, _⟩ | ⟨g, cap, cur, rfl, hg, _⟩
  · simp [Value.ownBlock]
  · intro k hk; simp [Value.ownBlock] at hk; omega
theorem Box4.kept {W W' : World} {row : Option Nat} {b : Nat} {s : S4} (h : Box4 W b s) (hg : W.grownBy W' row) (hne : some b ≠ row) : Box4 W' b s := (hg.block b h.lt hne).trans h

/-- The bytes below k. -/
def lb (s : S4) (k : Nat) : List UInt8 := ((List.range k).filter s.has).map UInt8.ofNat
theorem lb_all (s : S4) : lb s 256 = lstB s := rfl
theorem lb_yes (s : S4) (k : Nat) (h : s.has k = true) : lb s (k + 1) = lb s k ++ [UInt8.ofNat k] := by
  unfold lb
  rw [List.range_succ, List.filter_append, List.filter_cons_of_pos h, List.filter_nil, List.map_append]; rfl
theorem lb_no (s : S4) (k : Nat) (h : s.has k = false) : lb s (k + 1) = lb s k := by
  unfold lb
  rw [List.range_succ, List.filter_append, List.filter_cons_of_neg (by rw [h]; decide), List.filter_nil, List.append_nil]
theorem lb_len (s : S4) (k : Nat) : (lb s k).length ≤ k := by
  have := List.length_filter_le s.has (List.range k)
  simp only [lb, List.length_map]
  rw [List.length_range] at this
  exact this

set_option maxRecDepth 100000 in
set_option maxHeartbeats 4000000 in
theorem rlist_any (s : S4) (hs : s.ok) (w : World) :
    Calls Tryz.prog 28 #[s.v] w fun e w' => e = .returned (.string ⟨(lstB s).toArray⟩) ∧ Below w.heap.size w w' := by
  obtain ⟨i0, hi, hz0, hz1, hz2⟩ := info_parts info_u8
  go_enter Tryz.func28, Tryz.ntmps28
  go_wp2_with fail
  have hbs := Box4.new w s
  have hB : Below w.heap.size w (w.alloc (.cells #[.int .u64 s.a, .int .u64 s.b, .int .u64 s.c, .int .u64 s.d] 24)) := (Below.refl _ w).alloc (Nat.le_refl _) _
  go_loopw [3, 4] (fun v i wr => ∃ k : Nat, k ≤ 256 ∧ i = .int .i64 k ∧ wr.ownsRow (w.heap.size + 1) 5 1 v (lb s k).length ((lb s k).map byteV) ∧ Box4 wr w.heap.size s ∧ Below w.heap.size w wr)
    (fun _ i _ => 256 - (intOf i).toNat)
  case atStart => exact ⟨0, by omega, rfl, World.ownsRow_nil _ _ _ _, hbs, hB⟩
  case round =>
    clear hbs hB
    obtain ⟨k, hk, rfl, hrow, hS, hB⟩ := hrel
    by_cases hlt : k < 256
    · obtain ⟨x0, x1, x2, x3⟩ := hS.cells
      go_wp2_with fail
      refine (rhas_any s hs k hlt _).mono ?_
      rintro e w1 ⟨rfl, hb⟩
      have hrow1 := ownBelow hrow hb
      have hS1 := hS.below hb hS.lt
      have hB1 := bstep hB hb
      clear hrow hS hB hb x0 x1 x2 x3
      have hyes := Lib.hid (lb_yes s k)
      have hno := Lib.hid (lb_no s k)
      have hlen := lb_len s k
      have hlt1 := hS1.lt
      cases h1 : s.has k
      · go_wp2
        go_roundw
        case rel => exact ⟨k + 1, by omega, by go_num, by rw [hno.out h1]; exact hrow1, hS1, hB1⟩
        case measure => simp [intOf]; omega
      · go_wp2_with (at_builtin; refine wpList_append_own _ rfl _ _ 83 rfl (w.heap.size + 1) 5 i0 (.int .u8 0) 1 1 Tryz.underlying83 hi hz0 hz1 hz2 rfl (by decide) _ _ _ rfl (hrow1.alloc _) ⟨w1.heap.size, 0, none⟩ 1 1 [.int .u8 k] rfl rfl (cell_one_new _ _ _) (fun x hx => by simp at hx; subst hx; rfl) (by unfold maxLen; omega) (by omega) (by simp; omega) ?_; intro v' w3 hown' hgrow _)
        go_roundw
        case rel =>
          have hS2 := (hS1.alloc _).kept hgrow (ownNot hrow1 (by omega))
          have hB2 := (hB1.alloc (by omega) _).grown hgrow (by simp; omega) (fun j hj => Nat.le_of_succ_le (ownAt hrow1 j hj))
          refine ⟨k + 1, by omega, by go_num, ?_, hS2, hB2⟩
          rw [hyes.out h1]
          have e1 : (UInt8.ofNat k).toNat = k := by rw [UInt8.toNat_ofNat']; omega
          simpa [byteV, e1] using hown'
        case measure => simp [intOf]; omega
    · obtain rfl : k = 256 := by omega
      have hcv := conv_own _ hrow
      rw [lb_all] at hcv
      go_wp2
      go_ret
      exact ⟨rfl, hB⟩
end Go.Proofs.YtfjpbedcopdglaaGreatDoor
