/- Compare of two sets, for every two sets. -/
import Derived.Test.YtolhignlofonjaaDoorSetX
namespace Go.Proofs.YtolhignlofonjaaDoor
open Go.RowKit Go.Shelf

theorem keepN {W W' : World} {n : Nat} (hb : Below W.heap.size W W') (h : n ≤ W.heap.size) : n ≤ W'.heap.size ∧ ∀ k o, k < n → W'.cell? ⟨k, o, none⟩ = W.cell? ⟨k, o, none⟩ :=
  ⟨Nat.le_trans h hb.size, fun _ _ hk => hb.cell (p := ⟨_, _, none⟩) (Nat.lt_of_lt_of_le hk h)⟩
set_option maxHeartbeats 1000000 in
theorem compare_same (s : S4) (w : World) :
    Calls Tryd.prog 33 #[s.v, s.v] w fun e w' => e = .returned (.int .i64 0) ∧ Below w.heap.size w w' := by
  go_enter Tryd.func33, Tryd.ntmps33
  go_wp2
  go_ret
  exact ⟨rfl, ((Below.refl _ w).alloc (Nat.le_refl _) _).alloc (by simp) _⟩
set_option maxHeartbeats 1000000 in
theorem compare_other (s t : S4) (hs : s.ok) (ht : t.ok) (hne : same4 s t = false) (w : World) (hT : Tab w) :
    Calls Tryd.prog 33 #[s.v, t.v] w fun e w' => e = .returned (.int .i64 (Lib.compareBytes (lstB s) (lstB t))) ∧ Below w.heap.size w w' := by
  unfold same4 at hne
  have hB0 : Below w.heap.size w ((w.alloc (.cells #[.int .u64 s.a, .int .u64 s.b, .int .u64 s.c, .int .u64 s.d] 24)).alloc (.cells #[.int .u64 t.a, .int .u64 t.b, .int .u64 t.c, .int .u64 t.d] 24)) := ((Below.refl _ w).alloc (Nat.le_refl _) _).alloc (by simp) _
  have hlt := hT.lt
  have hT0 := hT.below hB0 hlt
  have hHB := Lib.hid hB0
  clear hB0
  go_enter Tryd.func33, Tryd.ntmps33
  go_wp2
  go_region_held3 (fun w' => w'.cell? ⟨w.heap.size, 0, none⟩ = some (.int .u64 s.a) ∧ w'.cell? ⟨w.heap.size, 1, none⟩ = some (.int .u64 s.b) ∧ w'.cell? ⟨w.heap.size, 2, none⟩ = some (.int .u64 s.c) ∧ w'.cell? ⟨w.heap.size, 3, none⟩ = some (.int .u64 s.d) ∧ w'.cell? ⟨w.heap.size + 1, 0, none⟩ = some (.int .u64 t.a) ∧ w'.cell? ⟨w.heap.size + 1, 1, none⟩ = some (.int .u64 t.b) ∧ w'.cell? ⟨w.heap.size + 1, 2, none⟩ = some (.int .u64 t.c) ∧ w'.cell? ⟨w.heap.size + 1, 3, none⟩ = some (.int .u64 t.d))
    (first
      | go_keep
      | (go_split_ands
         refine ⟨?_, ?_, ?_, ?_, ?_, ?_, ?_, ?_⟩
         all_goals (rw [hcc _ _ (by omega)]; first | assumption | (simp; done))))
    (first
      | (go_at_call 16; refine (list_any _ (by first | exact hs | exact ht) _ (by first | exact hT1 | exact hT0)).mono ?_; rintro e w1 ⟨rfl, hb⟩; obtain ⟨hL, hcc⟩ := keepN (n := w.heap.size + 2) hb (by first | exact hL | (simp; done)); have hT1 := Tab.step (by first | exact hT1 | exact hT0) hb; have hBB := Lib.hid (bstep (by first | exact hBB.out | exact hHB.out | exact (hHB.out).drew) hb))
      | (go_at_call 42; refine (strings_Compare _ _ _).mono ?_; rintro e w' ⟨rfl, rfl⟩))
  all_goals
    go_wp2
    go_ret
    exact ⟨rfl, hBB.out⟩

theorem compareBytes_self : ∀ l : List UInt8, Lib.compareBytes l l = 0
  | [] => rfl
  | a :: l => by
    have ih := compareBytes_self l
    simp [Lib.compareBytes, ih]
/-- How two sets stand, by their lists. -/
def cmpS (s t : S4) : Int := Lib.compareBytes (lstB s) (lstB t)
theorem compare_any (s t : S4) (hs : s.ok) (ht : t.ok) (w : World) (hT : Tab w) :
    Calls Tryd.prog 33 #[s.v, t.v] w fun e w' => e = .returned (.int .i64 (cmpS s t)) ∧ Below w.heap.size w w' := by
  cases h : same4 s t with
  | false => exact compare_other s t hs ht h w hT
  | true =>
    obtain rfl := (same4_iff s t).1 h
    have e : cmpS s s = 0 := compareBytes_self _
    rw [e]
    exact compare_same s w
end Go.Proofs.YtolhignlofonjaaDoor
