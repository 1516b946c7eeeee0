/- The document's own Len, Only, All, Not, Subset and Meets: for every set. -/
import Derived.Test.YtolhignlofonjaaDoorSetJ
import Derived.Test.YtolhignlofonjaaDoorSetK
namespace Go.Proofs.YtolhignlofonjaaDoor
open Go.RowKit Go.Shelf

theorem lstB_size (s : S4) : ByteArray.size ⟨(lstB s).toArray⟩ = s.lst.length := by
  show (lstB s).toArray.size = _
  simp [lstB]
theorem lst_le (s : S4) : s.lst.length ≤ 256 := by
  have := List.length_filter_le s.has (List.range 256)
  rw [List.length_range] at this
  exact this

set_option maxHeartbeats 1000000 in
theorem rlen_any (s : S4) (hs : s.ok) (w : World) :
    Calls Tryd.prog 15 #[s.v] w fun e w' => e = .returned (.int .i64 (s.lst.length : Int)) ∧ Below w.heap.size w w' := by
  have HL := Lib.hid (lstB_len s)
  go_enter Tryd.func15, Tryd.ntmps15
  go_wp2_with fail
  refine (rlist_any s hs _).mono ?_
  rintro e w1 ⟨rfl, hb⟩
  go_wp2
  go_ret
  refine ⟨?_, ((Below.refl _ w).alloc (Nat.le_refl _) _).trans (hb.mono (by simp))⟩
  show Ending.returned (Value.int .i64 ((lstB s).length : Int)) = _
  rw [HL.out]

set_option maxHeartbeats 1000000 in
theorem ronly_no (s : S4) (hs : s.ok) (h : s.lst.length ≠ 1) (w : World) :
    Calls Tryd.prog 7 #[s.v] w fun e w' => e = .returned (.tuple #[.int .u8 0, .bool false]) ∧ Below w.heap.size w w' := by
  have hl := lstB_len s
  have hne : (((lstB s).length : Int) != 1) = true := by rw [bne_iff_ne]; omega
  clear hl
  go_enter Tryd.func7, Tryd.ntmps7
  go_wp2_with (go_at_call 17; refine (rlist_any s hs _).mono ?_; rintro e w1 ⟨rfl, hb⟩)
  go_ret2
  exact ⟨rfl, ((Below.refl _ w).alloc (Nat.le_refl _) _).trans (hb.mono (by simp))⟩
set_option maxHeartbeats 1000000 in
theorem ronly_yes (s : S4) (hs : s.ok) (n : Nat) (h : s.lst = [n]) (w : World) :
    Calls Tryd.prog 7 #[s.v] w fun e w' => e = .returned (.tuple #[.int .u8 n, .bool true]) ∧ Below w.heap.size w w' := by
  have hb256 : n < 256 := (S4.mem_lst.1 (by rw [h]; exact List.mem_singleton_self n)).1
  have hbytes : lstB s = [UInt8.ofNat n] := by rw [lstB, h]; rfl
  have HN := Lib.hid (show (UInt8.ofNat n).toNat = n by rw [UInt8.toNat_ofNat']; omega)
  go_enter Tryd.func7, Tryd.ntmps7
  go_wp2_with (go_at_call 17; refine (rlist_any s hs _).mono ?_; rintro e w1 ⟨rfl, hb⟩; rw [hbytes])
  go_ret2
  refine ⟨?_, ((Below.refl _ w).alloc (Nat.le_refl _) _).trans (hb.mono (by simp))⟩
  show Ending.returned (.tuple #[.int .u8 ((UInt8.ofNat n).toNat : Int), .bool true]) = _
  rw [HN.out]

theorem all_fl : fl (fun n => decide (0 ≤ n) && decide (n ≤ 255)) 256 = S4.nil.not :=
  fl_eq _ (S4.ok_not S4.ok_nil) fun n hn => by
    rw [S4.has_not S4.ok_nil, S4.has_nil]
    have : n ≤ 255 := by omega
    simp [this]
set_option maxHeartbeats 1000000 in
theorem rall_any (w : World) :
    Calls Tryd.prog 41 #[] w fun e w' => e = .returned (S4.nil.not).v ∧ Below w.heap.size w w' := by
  have h := fun w => rrange_fl 0 255 (by decide) (by decide) w
  rw [all_fl] at h
  go_enter Tryd.func41, Tryd.ntmps41
  go_wp2_with fail
  refine (h _).mono ?_
  rintro e w1 ⟨rfl, hb⟩
  have hsz := hb.size
  simp only [World.size_alloc] at hb hsz
  obtain ⟨hc, hf⟩ := bcell hb
  go_wp2
  have hx := (((Box4.new w S4.nil).below hb (by simp)).store S4.nil.not)
  refine Box4.result (b := w.heap.size) Tryd.results41 rfl rfl hx ⟨rfl, ?_⟩
  exact ((((((Below.refl _ w).alloc (Nat.le_refl _) _).trans (hb.mono (by simp))).setCell (Nat.le_refl _) _).setCell (Nat.le_refl _) _).setCell (Nat.le_refl _) _).setCell (Nat.le_refl _) _
theorem rminus_all (s : S4) (hs : s.ok) : fl (fun n => S4.nil.not.has n && !s.has n) 256 = s.not :=
  fl_eq _ (S4.ok_not hs) fun n hn => by
    rw [S4.has_not hs, S4.has_not S4.ok_nil, S4.has_nil]; simp
theorem ror_eq {s t : S4} (hs : s.ok) (ht : t.ok) : fl (fun n => s.has n || t.has n) 256 = s.or t := fl_eq _ (S4.ok_or hs ht) fun n _ => S4.has_or s t n
theorem rand_eq {s t : S4} (hs : s.ok) (ht : t.ok) : fl (fun n => s.has n && t.has n) 256 = s.and t := fl_eq _ (S4.ok_and hs ht) fun n _ => S4.has_and s t n
theorem rminus_eq {s t : S4} (hs : s.ok) (ht : t.ok) : fl (fun n => s.has n && !t.has n) 256 = s.minus t := fl_eq _ (S4.ok_minus hs ht) fun n _ => S4.has_minus s ht n
theorem rrange_eq (a b : Nat) (hb : b < 256) : fl (fun n => decide (a ≤ n) && decide (n ≤ b)) 256 = S4.nil.ofL (List.range' a (b + 1 - a)) :=
  fl_eq _ (S4.ok_ofL _ S4.ok_nil) fun n hn => by
    rw [S4.has_ofL _ _ (by intro m hm; simp at hm; omega) n hn, S4.has_nil]
    by_cases h1 : a ≤ n <;> by_cases h2 : n ≤ b
    · have h3 : n < a + (b + 1 - a) := by omega
      simp [h1, h2, h3]
    · have h3 : ¬ n < a + (b + 1 - a) := by omega
      simp [h1, h2, h3]
    · simp [h1]
    · simp [h1]
theorem ror_any (s t : S4) (hs : s.ok) (ht : t.ok) (w : World) :
    Calls Tryd.prog 22 #[s.v, t.v] w fun e w' => e = .returned (s.or t).v ∧ Below w.heap.size w w' := by rw [← ror_eq hs ht]; exact ror_fl s t hs ht w
theorem rand_any (s t : S4) (hs : s.ok) (ht : t.ok) (w : World) :
    Calls Tryd.prog 24 #[s.v, t.v] w fun e w' => e = .returned (s.and t).v ∧ Below w.heap.size w w' := by rw [← rand_eq hs ht]; exact rand_fl s t hs ht w
theorem rminus_any (s t : S4) (hs : s.ok) (ht : t.ok) (w : World) :
    Calls Tryd.prog 26 #[s.v, t.v] w fun e w' => e = .returned (s.minus t).v ∧ Below w.heap.size w w' := by rw [← rminus_eq hs ht]; exact rminus_fl s t hs ht w
theorem rrange_any (a b : Nat) (ha : a < 256) (hb : b < 256) (w : World) :
    Calls Tryd.prog 11 #[.int .u8 a, .int .u8 b] w fun e w' => e = .returned (S4.nil.ofL (List.range' a (b + 1 - a))).v ∧ Below w.heap.size w w' := by rw [← rrange_eq a b hb]; exact rrange_fl a b ha hb w

set_option maxHeartbeats 1000000 in
theorem rnot_any (s : S4) (hs : s.ok) (w : World) :
    Calls Tryd.prog 28 #[s.v] w fun e w' => e = .returned (s.not).v ∧ Below w.heap.size w w' := by
  have h := fun w => rminus_fl S4.nil.not s (S4.ok_not S4.ok_nil) hs w
  rw [rminus_all s hs] at h
  go_enter Tryd.func28, Tryd.ntmps28
  go_wp2_with fail
  have hbs := Box4.new w s
  have hbr := Box4.new (w.alloc (.cells #[.int .u64 s.a, .int .u64 s.b, .int .u64 s.c, .int .u64 s.d] 24)) S4.nil
  have hbs := hbs.alloc (.cells #[.int .u64 0, .int .u64 0, .int .u64 0, .int .u64 0] 24)
  rw [World.size_alloc] at hbr
  have hB : Below w.heap.size w ((w.alloc (.cells #[.int .u64 s.a, .int .u64 s.b, .int .u64 s.c, .int .u64 s.d] 24)).alloc (.cells #[.int .u64 0, .int .u64 0, .int .u64 0, .int .u64 0] 24)) := ((Below.refl _ w).alloc (Nat.le_refl _) _).alloc (by simp) _
  generalize hw0 : (w.alloc (.cells #[.int .u64 s.a, .int .u64 s.b, .int .u64 s.c, .int .u64 s.d] 24)).alloc (.cells #[.int .u64 0, .int .u64 0, .int .u64 0, .int .u64 0] 24) = w0
  have hbr : Box4 w0 (w.heap.size + 1) S4.nil := by rw [← hw0]; exact hbr
  rw [hw0] at hbs hB
  clear hw0
  obtain ⟨x0, x1, x2, x3⟩ := hbs.cells
  have hl1 := hbs.lt
  have hl2 := hbr.lt
  go_region_with (first
    | (go_at_call 41; refine (rall_any _).mono ?_; rintro e w1 ⟨rfl, hb⟩; have hsz := hb.size; obtain ⟨y0, y1, y2, y3⟩ := (Box4.below (W := w0.drew) (by exact hbs) hb (by exact hbs.lt)).cells)
    | (go_at_call 26; refine (h _).mono ?_; rintro e w2 ⟨rfl, hb2⟩; have hbr2 := (Box4.below (W := w0.drew) (by exact hbr) hb (by exact hbr.lt)).below hb2 (by exact Nat.lt_of_lt_of_le hbr.lt hb.size); obtain ⟨f0, f1, f2, f3⟩ := hbr2.free; obtain ⟨o0, o1, o2, o3⟩ := hbr2.cells))
  all_goals
    go_wp2
    refine Box4.result (b := w.heap.size + 1) Tryd.results28 rfl rfl (hbr2.store s.not) ⟨rfl, ?_⟩
    have hB2 : Below w.heap.size w w2 := bstep (bstep (hB.drew) hb) hb2
    exact (((hB2.setCell (by simp) _).setCell (by simp) _).setCell (by simp) _).setCell (by simp) _

set_option maxHeartbeats 1000000 in
theorem rsubset_any (s t : S4) (hs : s.ok) (ht : t.ok) (w : World) :
    Calls Tryd.prog 30 #[s.v, t.v] w fun e w' => e = .returned (.bool (((s.minus t).lst.length : Int) == 0)) ∧ Below w.heap.size w w' := by
  go_enter Tryd.func30, Tryd.ntmps30
  go_wp2_with (first
    | (go_at_call 26; refine (rminus_any s t hs ht _).mono ?_; rintro e w1 ⟨rfl, hb⟩)
    | (go_at_call 15; refine (rlen_any _ (S4.ok_minus hs ht) _).mono ?_; rintro e w2 ⟨rfl, hb2⟩))
  go_ret
  refine ⟨rfl, bstep (bstep ?_ hb) hb2⟩
  exact ((Below.refl _ w).alloc (Nat.le_refl _) _).alloc (by simp) _

set_option maxHeartbeats 1000000 in
theorem rmeets_any (s t : S4) (hs : s.ok) (ht : t.ok) (w : World) :
    Calls Tryd.prog 32 #[s.v, t.v] w fun e w' => e = .returned (.bool (decide (0 < (s.and t).lst.length))) ∧ Below w.heap.size w w' := by
  go_enter Tryd.func32, Tryd.ntmps32
  go_wp2_with (first
    | (go_at_call 24; refine (rand_any s t hs ht _).mono ?_; rintro e w1 ⟨rfl, hb⟩)
    | (go_at_call 15; refine (rlen_any _ (S4.ok_and hs ht) _).mono ?_; rintro e w2 ⟨rfl, hb2⟩))
  go_ret
  refine ⟨rfl, bstep (bstep ?_ hb) hb2⟩
  exact ((Below.refl _ w).alloc (Nat.le_refl _) _).alloc (by simp) _
end Go.Proofs.YtolhignlofonjaaDoor
