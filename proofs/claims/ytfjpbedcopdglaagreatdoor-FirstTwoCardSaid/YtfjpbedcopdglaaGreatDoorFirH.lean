/- The document's own answers about sets, byte by byte: for every input. -/
import Derived.Test.YtfjpbedcopdglaaGreatDoorFirF
namespace Go.Proofs.YtfjpbedcopdglaaGreatDoor
open Go.RowKit Go.Shelf

/-- The bytes below k for which it is so. -/
def fl (p : Nat → Bool) (k : Nat) : S4 := S4.nil.ofL ((List.range k).filter p)
theorem ok_fl (p : Nat → Bool) (k : Nat) : (fl p k).ok := S4.ok_ofL _ S4.ok_nil
theorem fl_zero (p : Nat → Bool) : fl p 0 = S4.nil := rfl
theorem fl_yes (p : Nat → Bool) (k : Nat) (h : p k = true) : fl p (k + 1) = (fl p k).wth k := by
  unfold fl
  rw [List.range_succ, List.filter_append, List.filter_cons_of_pos h, List.filter_nil, S4.ofL_snoc]
theorem fl_no (p : Nat → Bool) (k : Nat) (h : p k = false) : fl p (k + 1) = fl p k := by
  unfold fl
  rw [List.range_succ, List.filter_append, List.filter_cons_of_neg (by rw [h]; decide), List.filter_nil, List.append_nil]
theorem has_fl (p : Nat → Bool) {n : Nat} (hn : n < 256) : (fl p 256).has n = p n := by
  unfold fl
  rw [S4.has_ofL _ _ (by intro m hm; simp at hm; exact hm.1) n hn, S4.has_nil]
  cases h : p n <;> simp [hn, h]
theorem fl_eq (p : Nat → Bool) {s : S4} (hs : s.ok) (h : ∀ n, n < 256 → s.has n = p n) : fl p 256 = s :=
  S4.ext (ok_fl p 256) hs fun n hn => by rw [has_fl p hn, h n hn]

/-- What a loop over two sets carries: their boxes, the result's, the one in the making; and what was there before. -/
def InvH (w : World) (s t o : S4) (W : World) : Prop := Box4 W w.heap.size s ∧ Box4 W (w.heap.size + 1) t ∧ Box4 W (w.heap.size + 1 + 1) S4.nil ∧ Box4 W (w.heap.size + 1 + 1 + 1) o ∧ Below w.heap.size w W
theorem InvH.step {w W W' : World} {s t o : S4} (h : InvH w s t o W) (hb : Below W.heap.size W W') : InvH w s t o W' :=
  ⟨h.1.below hb h.1.lt, h.2.1.below hb h.2.1.lt, h.2.2.1.below hb h.2.2.1.lt, h.2.2.2.1.below hb h.2.2.2.1.lt, bstep h.2.2.2.2 hb⟩
theorem InvH.store {w W : World} {s t o : S4} (h : InvH w s t o W) (u : S4) : InvH w s t u ((((W.setCell ⟨w.heap.size + 1 + 1 + 1, 0, none⟩ (.int .u64 u.a)).setCell ⟨w.heap.size + 1 + 1 + 1, 1, none⟩ (.int .u64 u.b)).setCell ⟨w.heap.size + 1 + 1 + 1, 2, none⟩ (.int .u64 u.c)).setCell ⟨w.heap.size + 1 + 1 + 1, 3, none⟩ (.int .u64 u.d)) := by
  obtain ⟨h1, h2, h3, h4, h5⟩ := h
  have e1 : w.heap.size ≠ w.heap.size + 1 + 1 + 1 := by omega
  have e2 : w.heap.size + 1 ≠ w.heap.size + 1 + 1 + 1 := by omega
  have e3 : w.heap.size + 1 + 1 ≠ w.heap.size + 1 + 1 + 1 := by omega
  have e4 : w.heap.size ≤ w.heap.size + 1 + 1 + 1 := by omega
  exact ⟨(((h1.other e1 _).other e1 _).other e1 _).other e1 _, (((h2.other e2 _).other e2 _).other e2 _).other e2 _, (((h3.other e3 _).other e3 _).other e3 _).other e3 _, h4.store u, (((h5.setCell e4 _).setCell e4 _).setCell e4 _).setCell e4 _⟩

set_option maxRecDepth 100000 in
set_option maxHeartbeats 4000000 in
theorem ror_fl (s t : S4) (hs : s.ok) (ht : t.ok) (w : World) :
    Calls Tryz.prog 13 #[s.v, t.v] w fun e w' => e = .returned (fl (fun n => s.has n || t.has n) 256).v ∧ Below w.heap.size w w' := by
  obtain ⟨P, hP⟩ : ∃ P : Nat → Bool, P = fun n => s.has n || t.has n := ⟨_, rfl⟩
  rw [← hP]
  have hPa : ∀ n, P n = (s.has n || t.has n) := fun n => by rw [hP]
  have HP := Lib.hid hPa
  clear hP hPa
  go_enter Tryz.func13, Tryz.ntmps13
  go_wp2_with fail
  have hbs := ((Box4.new w s).alloc (.cells #[.int .u64 t.a, .int .u64 t.b, .int .u64 t.c, .int .u64 t.d] 24))
  have hbt := Box4.new (w.alloc (.cells #[.int .u64 s.a, .int .u64 s.b, .int .u64 s.c, .int .u64 s.d] 24)) t
  have hbr := Box4.new ((w.alloc (.cells #[.int .u64 s.a, .int .u64 s.b, .int .u64 s.c, .int .u64 s.d] 24)).alloc (.cells #[.int .u64 t.a, .int .u64 t.b, .int .u64 t.c, .int .u64 t.d] 24)) S4.nil
  have hbo := Box4.new (((w.alloc (.cells #[.int .u64 s.a, .int .u64 s.b, .int .u64 s.c, .int .u64 s.d] 24)).alloc (.cells #[.int .u64 t.a, .int .u64 t.b, .int .u64 t.c, .int .u64 t.d] 24)).alloc (.cells #[.int .u64 0, .int .u64 0, .int .u64 0, .int .u64 0] 24)) S4.nil
  have hB : Below w.heap.size w ((((w.alloc (.cells #[.int .u64 s.a, .int .u64 s.b, .int .u64 s.c, .int .u64 s.d] 24)).alloc (.cells #[.int .u64 t.a, .int .u64 t.b, .int .u64 t.c, .int .u64 t.d] 24)).alloc (.cells #[.int .u64 0, .int .u64 0, .int .u64 0, .int .u64 0] 24)).alloc (.cells #[.int .u64 0, .int .u64 0, .int .u64 0, .int .u64 0] 24)) := ((((Below.refl _ w).alloc (Nat.le_refl _) _).alloc (by simp) _).alloc (by simp; omega) _).alloc (by simp; omega) _
  have hbs := (hbs.alloc (.cells #[.int .u64 0, .int .u64 0, .int .u64 0, .int .u64 0] 24)).alloc (.cells #[.int .u64 0, .int .u64 0, .int .u64 0, .int .u64 0] 24)
  have hbt := (hbt.alloc (.cells #[.int .u64 0, .int .u64 0, .int .u64 0, .int .u64 0] 24)).alloc (.cells #[.int .u64 0, .int .u64 0, .int .u64 0, .int .u64 0] 24)
  have hbr : Box4 _ _ S4.nil := Box4.alloc hbr (.cells #[.int .u64 0, .int .u64 0, .int .u64 0, .int .u64 0] 24)
  simp only [World.size_alloc] at hbt hbr hbo
  go_loopw [6] (fun i wr => ∃ k : Nat, k ≤ 256 ∧ i = .int .i64 k ∧ InvH w s t (fl P k) wr)
    (fun i _ => 256 - (intOf i).toNat)
  case atStart => exact ⟨0, by omega, rfl, ⟨hbs, hbt, hbr, hbo, hB⟩⟩
  case round =>
    clear hbs hbt hbr hbo hB
    obtain ⟨k, hk, rfl, hI⟩ := hrel
    by_cases hlt : k < 256
    · obtain ⟨x0, x1, x2, x3⟩ := hI.1.cells
      have hyes := Lib.hid (fl_yes P k)
      have hno := Lib.hid (fl_no P k)
      cases h1 : s.has k <;> cases h2 : t.has k
      all_goals
        have hPk := HP.out k
        rw [h1, h2] at hPk
        have HPk := Lib.hid hPk
        clear hPk
        go_wp2_with (first
          | (go_at_call 17; refine (rhas_any _ (by first | exact hs | exact ht) k hlt _).mono ?_; rintro e w1 ⟨rfl, hb⟩; have hI := InvH.step (by exact hI) hb; clear hb; obtain ⟨x0, x1, x2, x3⟩ := hI.1.cells; obtain ⟨y0, y1, y2, y3⟩ := hI.2.1.cells; obtain ⟨o0, o1, o2, o3⟩ := hI.2.2.2.1.cells)
          | (go_at_call 18; refine (rwith_any (fl P k) (ok_fl P k) k hlt _).mono ?_; rintro e w1 ⟨rfl, hb⟩; have hI := InvH.step (by exact hI) hb; clear hb; obtain ⟨o0, o1, o2, o3⟩ := hI.2.2.2.1.cells; obtain ⟨f0, f1, f2, f3⟩ := hI.2.2.2.1.free))
        go_roundw
        case rel =>
          first
            | exact ⟨k + 1, by omega, by go_num, by rw [hyes.out (HPk.out.trans rfl)]; exact hI.store _⟩
            | exact ⟨k + 1, by omega, by go_num, by rw [hno.out (HPk.out.trans rfl)]; exact hI⟩
        case measure => simp [intOf]; omega
    · obtain ⟨hS, hT, hR, hO, hB⟩ := hI
      obtain ⟨o0, o1, o2, o3⟩ := hO.cells
      obtain ⟨r0, r1, r2, r3⟩ := hR.cells
      obtain ⟨f0, f1, f2, f3⟩ := hR.free
      obtain rfl : k = 256 := by omega
      go_wp2
      refine Box4.result (b := w.heap.size + 1 + 1) Tryz.results13 rfl rfl (hR.store (fl P 256)) ⟨rfl, ?_⟩
      exact (((hB.setCell (by simp; omega) _).setCell (by simp; omega) _).setCell (by simp; omega) _).setCell (by simp; omega) _

set_option maxRecDepth 100000 in
set_option maxHeartbeats 4000000 in
theorem rminus_fl (s t : S4) (hs : s.ok) (ht : t.ok) (w : World) :
    Calls Tryz.prog 21 #[s.v, t.v] w fun e w' => e = .returned (fl (fun n => s.has n && !t.has n) 256).v ∧ Below w.heap.size w w' := by
  obtain ⟨P, hP⟩ : ∃ P : Nat → Bool, P = fun n => s.has n && !t.has n := ⟨_, rfl⟩
  rw [← hP]
  have hPa : ∀ n, P n = (s.has n && !t.has n) := fun n => by rw [hP]
  have HP := Lib.hid hPa
  clear hP hPa
  go_enter Tryz.func21, Tryz.ntmps21
  go_wp2_with fail
  have hbs := ((Box4.new w s).alloc (.cells #[.int .u64 t.a, .int .u64 t.b, .int .u64 t.c, .int .u64 t.d] 24))
  have hbt := Box4.new (w.alloc (.cells #[.int .u64 s.a, .int .u64 s.b, .int .u64 s.c, .int .u64 s.d] 24)) t
  have hbr := Box4.new ((w.alloc (.cells #[.int .u64 s.a, .int .u64 s.b, .int .u64 s.c, .int .u64 s.d] 24)).alloc (.cells #[.int .u64 t.a, .int .u64 t.b, .int .u64 t.c, .int .u64 t.d] 24)) S4.nil
  have hbo := Box4.new (((w.alloc (.cells #[.int .u64 s.a, .int .u64 s.b, .int .u64 s.c, .int .u64 s.d] 24)).alloc (.cells #[.int .u64 t.a, .int .u64 t.b, .int .u64 t.c, .int .u64 t.d] 24)).alloc (.cells #[.int .u64 0, .int .u64 0, .int .u64 0, .int .u64 0] 24)) S4.nil
  have hB : Below w.heap.size w ((((w.alloc (.cells #[.int .u64 s.a, .int .u64 s.b, .int .u64 s.c, .int .u64 s.d] 24)).alloc (.cells #[.int .u64 t.a, .int .u64 t.b, .int .u64 t.c, .int .u64 t.d] 24)).alloc (.cells #[.int .u64 0, .int .u64 0, .int .u64 0, .int .u64 0] 24)).alloc (.cells #[.int .u64 0, .int .u64 0, .int .u64 0, .int .u64 0] 24)) := ((((Below.refl _ w).alloc (Nat.le_refl _) _).alloc (by simp) _).alloc (by simp; omega) _).alloc (by simp; omega) _
  have hbs := (hbs.alloc (.cells #[.int .u64 0, .int .u64 0, .int .u64 0, .int .u64 0] 24)).alloc (.cells #[.int .u64 0, .int .u64 0, .int .u64 0, .int .u64 0] 24)
  have hbt := (hbt.alloc (.cells #[.int .u64 0, .int .u64 0, .int .u64 0, .int .u64 0] 24)).alloc (.cells #[.int .u64 0, .int .u64 0, .int .u64 0, .int .u64 0] 24)
  have hbr : Box4 _ _ S4.nil := Box4.alloc hbr (.cells #[.int .u64 0, .int .u64 0, .int .u64 0, .int .u64 0] 24)
  simp only [World.size_alloc] at hbt hbr hbo
  go_loopw [6] (fun i wr => ∃ k : Nat, k ≤ 256 ∧ i = .int .i64 k ∧ InvH w s t (fl P k) wr)
    (fun i _ => 256 - (intOf i).toNat)
  case atStart => exact ⟨0, by omega, rfl, ⟨hbs, hbt, hbr, hbo, hB⟩⟩
  case round =>
    clear hbs hbt hbr hbo hB
    obtain ⟨k, hk, rfl, hI⟩ := hrel
    by_cases hlt : k < 256
    · obtain ⟨x0, x1, x2, x3⟩ := hI.1.cells
      have hyes := Lib.hid (fl_yes P k)
      have hno := Lib.hid (fl_no P k)
      cases h1 : s.has k <;> cases h2 : t.has k
      all_goals
        have hPk := HP.out k
        rw [h1, h2] at hPk
        have HPk := Lib.hid hPk
        clear hPk
        go_wp2_with (first
          | (go_at_call 17; refine (rhas_any _ (by first | exact hs | exact ht) k hlt _).mono ?_; rintro e w1 ⟨rfl, hb⟩; have hI := InvH.step (by exact hI) hb; clear hb; obtain ⟨x0, x1, x2, x3⟩ := hI.1.cells; obtain ⟨y0, y1, y2, y3⟩ := hI.2.1.cells; obtain ⟨o0, o1, o2, o3⟩ := hI.2.2.2.1.cells)
          | (go_at_call 18; refine (rwith_any (fl P k) (ok_fl P k) k hlt _).mono ?_; rintro e w1 ⟨rfl, hb⟩; have hI := InvH.step (by exact hI) hb; clear hb; obtain ⟨o0, o1, o2, o3⟩ := hI.2.2.2.1.cells; obtain ⟨f0, f1, f2, f3⟩ := hI.2.2.2.1.free))
        go_roundw
        case rel =>
          first
            | exact ⟨k + 1, by omega, by go_num, by rw [hyes.out (HPk.out.trans rfl)]; exact hI.store _⟩
            | exact ⟨k + 1, by omega, by go_num, by rw [hno.out (HPk.out.trans rfl)]; exact hI⟩
        case measure => simp [intOf]; omega
    · obtain ⟨hS, hT, hR, hO, hB⟩ := hI
      obtain ⟨o0, o1, o2, o3⟩ := hO.cells
      obtain ⟨r0, r1, r2, r3⟩ := hR.cells
      obtain ⟨f0, f1, f2, f3⟩ := hR.free
      obtain rfl : k = 256 := by omega
      go_wp2
      refine Box4.result (b := w.heap.size + 1 + 1) Tryz.results21 rfl rfl (hR.store (fl P 256)) ⟨rfl, ?_⟩
      exact (((hB.setCell (by simp; omega) _).setCell (by simp; omega) _).setCell (by simp; omega) _).setCell (by simp; omega) _
end Go.Proofs.YtfjpbedcopdglaaGreatDoor
