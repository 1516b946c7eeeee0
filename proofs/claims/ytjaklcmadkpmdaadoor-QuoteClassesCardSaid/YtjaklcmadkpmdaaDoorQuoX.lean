/- begin: a reader is made, with its map. -/
import Derived.Test.YtjaklcmadkpmdaaDoorQuoW
import Derived.MapKept
import Derived.WideMake
namespace Go.Proofs.YtjaklcmadkpmdaaDoor
open Go Go.RowKit Go.Shelf
set_option linter.unusedSimpArgs false
set_option linter.unusedVariables false

theorem entL_append : ∀ (l : List (Nat × Nat)) (p : Nat × Nat) (i : Nat), entL (l ++ [p]) i = entL l i ++ [⟨.int .u8 p.1, .int .u8 p.2, i + l.length⟩]
  | [], p, i => rfl
  | q :: l, p, i => by
    rw [List.cons_append, entL, entL, entL_append l p (i + 1), List.cons_append, List.length_cons]
    rw [show i + 1 + l.length = i + (l.length + 1) by omega]

/-- The map with one more entry. -/
def putM (W : World) (m : Nat) (l : List (Nat × Nat)) : World := W.putObj m (.map (entL l 0).toArray l.length)
theorem putM_at (W : World) (m : Nat) (l : List (Nat × Nat)) (h : m < W.heap.size) : MapAt (putM W m l) m l := World.putObj_heap_same h
theorem put_map {W : World} {m : Nat} {l : List (Nat × Nat)} (h : MapAt W m l) (c v : Nat) (hn : findP l c = none) :
    (Instr.mapUpdate 61 (.map (some m)) (.int .u8 c) (.int .u8 v)).run Tryd.prog W = .ok () (putM W m (l ++ [(c, v)])) := by
  obtain ⟨q, hf⟩ := find_ent c l 0 0
  rw [hn] at hf
  have hfk : (Instr.findKey 5 (.int .u8 (c : Int)) (entL l 0).toArray.toList).run Tryd.prog W = .ok none W := by
    unfold Instr.findKey
    simp only [Sem.run_bind, run_underlying Tryd.underlying5, Result.andThen_ok, hf, Sem.run_pure]
    rfl
  have hck : (Instr.checkKey false 10000 5 (.int .u8 (c : Int))).run Tryd.prog W = .ok () W := by
    unfold Instr.checkKey
    simp only [Sem.run_bind, run_underlying Tryd.underlying5, Result.andThen_ok]; rfl
  unfold Instr.mapUpdate
  simp only [Sem.run_bind, run_underlying Tryd.underlying61, Result.andThen_ok, MapKept.run_getObj_map h, hck, hfk, MapKept.run_setObj_map _ h]
  unfold putM World.putObj
  rw [entL_append]
  simp [List.length_append]
theorem putM_drew (W : World) (m : Nat) (l : List (Nat × Nat)) : (putM W m l).drew = putM W.drew m l := rfl
theorem putM_below {W : World} {m B : Nat} {l : List (Nat × Nat)} (h : B ≤ m) : Below B W (putM W m l) :=
  ⟨rfl, rfl, rfl, by simp [putM, World.putObj], fun k hk => World.putObj_heap_other (by omega)⟩
theorem putM_size (W : World) (m : Nat) (l : List (Nat × Nat)) : (putM W m l).heap.size = W.heap.size := by simp [putM, World.putObj]
theorem putM_other (W : World) (m k : Nat) (l : List (Nat × Nat)) (h : k ≠ m) : (putM W m l).heap[k]? = W.heap[k]? := World.putObj_heap_other h

/-- A reader as it begins. -/
def rd0 (cls : Bool) (t : ByteArray) (mb : Nat) : Rd := ⟨t, bareB cls, .map (some mb), 0, 0⟩
/-- Its map as it is made. -/
def begL (cls : Bool) (k : Nat) : List (Nat × Nat) := [(110, 10), (114, 13), (116, 9)] ++ ((bareL cls).take k).map fun x => (x, x)

set_option maxRecDepth 100000 in
set_option maxHeartbeats 4000000 in
theorem begin_lit (t : ByteArray) (hs : t.size ≤ 1000000000) (q : UInt8) (W : World) :
    Calls Tryd.prog 26 #[.string t, .int .u8 q.toNat, .string ⟨#[92, 34]⟩] W fun e w' => ∃ b mb, e = .returned (.pointer (some ⟨b, 0, none⟩)) ∧ W.heap.size ≤ b ∧ W.heap.size ≤ mb ∧ mb ≠ b ∧ RdAt w' b ((rd0 false t mb).expect q) ∧ MapAt w' mb (behL false) ∧ Below W.heap.size W w' := by
  have hsz : W.heap.size < (W.alloc (.map #[] 0)).heap.size := by simp
  have p0 := run_makeMap_plain (P := Tryd.prog) W 61
  have m0 : MapAt (W.alloc (.map #[] 0)) W.heap.size [] := World.alloc_heap_new W _
  have p1 : (Instr.mapUpdate 61 (.map (some W.heap.size)) (.int .u8 110) (.int .u8 10)).run Tryd.prog (W.alloc (.map #[] 0)) = .ok () (putM (W.alloc (.map #[] 0)) W.heap.size [(110, 10)]) := put_map m0 110 10 rfl
  have m1 := putM_at (W.alloc (.map #[] 0)) W.heap.size [(110, 10)] hsz
  have p2 : (Instr.mapUpdate 61 (.map (some W.heap.size)) (.int .u8 114) (.int .u8 13)).run Tryd.prog (putM (W.alloc (.map #[] 0)) W.heap.size [(110, 10)]) = .ok () (putM (putM (W.alloc (.map #[] 0)) W.heap.size [(110, 10)]) W.heap.size [(110, 10), (114, 13)]) := put_map m1 114 13 rfl
  have m2 := putM_at (putM (W.alloc (.map #[] 0)) W.heap.size [(110, 10)]) W.heap.size [(110, 10), (114, 13)] (by rw [putM_size]; exact hsz)
  have p3 : (Instr.mapUpdate 61 (.map (some W.heap.size)) (.int .u8 116) (.int .u8 9)).run Tryd.prog (putM (putM (W.alloc (.map #[] 0)) W.heap.size [(110, 10)]) W.heap.size [(110, 10), (114, 13)]) = .ok () (putM (putM (putM (W.alloc (.map #[] 0)) W.heap.size [(110, 10)]) W.heap.size [(110, 10), (114, 13)]) W.heap.size [(110, 10), (114, 13), (116, 9)]) := put_map m2 116 9 rfl
  have m3 := putM_at (putM (putM (W.alloc (.map #[] 0)) W.heap.size [(110, 10)]) W.heap.size [(110, 10), (114, 13)]) W.heap.size [(110, 10), (114, 13), (116, 9)] (by rw [putM_size, putM_size]; exact hsz)
  have hXs : (putM (putM (putM (W.alloc (.map #[] 0)) W.heap.size [(110, 10)]) W.heap.size [(110, 10), (114, 13)]) W.heap.size [(110, 10), (114, 13), (116, 9)]).heap.size = W.heap.size + 1 := by rw [putM_size, putM_size, putM_size]; simp
  have hXb : Below W.heap.size W (putM (putM (putM (W.alloc (.map #[] 0)) W.heap.size [(110, 10)]) W.heap.size [(110, 10), (114, 13)]) W.heap.size [(110, 10), (114, 13), (116, 9)]) := (((((Below.refl _ W).alloc (Nat.le_refl _) _).trans (putM_below (Nat.le_refl _))).trans (putM_below (Nat.le_refl _))).trans (putM_below (Nat.le_refl _)))
  clear m0 m1 m2
  go_enter Tryd.func26, Tryd.ntmps26
  go_wp2_with fail
  clear p0 p1 p2 p3 hsz
  try rw [hXs]
  revert m3 hXs hXb
  generalize (putM (putM (putM (W.alloc (.map #[] 0)) W.heap.size [(110, 10)]) W.heap.size [(110, 10), (114, 13)]) W.heap.size [(110, 10), (114, 13), (116, 9)]) = X
  intro m3 hXs hXb
  have hXlt : W.heap.size < X.heap.size := by omega
  have hr0 : RdAt (X.alloc (.cells #[.string t, .string ⟨#[92, 34]⟩, .map (some W.heap.size), .int .i64 0, .int .i64 0] 63)) (W.heap.size + 1) (rd0 false t W.heap.size) := by rw [← hXs]; exact World.alloc_heap_new X _
  have hm0 : MapAt (X.alloc (.cells #[.string t, .string ⟨#[92, 34]⟩, .map (some W.heap.size), .int .i64 0, .int .i64 0] 63)) W.heap.size (begL false 0) := (Below.heap_alloc _ _ _ hXlt).trans m3
  go_loopw [8] (fun i wr => ∃ k : Nat, k ≤ 2 ∧ i = .int .i64 k ∧ RdAt wr (W.heap.size + 1) (rd0 false t W.heap.size) ∧ MapAt wr W.heap.size (begL false k) ∧ Below W.heap.size W wr) (fun i _ => 2 - (intOf i).toNat)
  case atStart => exact ⟨0, by omega, rfl, hr0, hm0, hXb.alloc (by omega) _⟩
  case round =>
    obtain ⟨k, hk, rfl, hr, hm, hb⟩ := hrel
    clear hr0 hm0 m3 hXb hXlt
    obtain ⟨x0, x1, x2, x3, x4⟩ := hr.cells
    replace x2 : wr.cell? ⟨W.heap.size + 1, 2, none⟩ = some (.map (some W.heap.size)) := x2
    have hrl := hr.lt
    have hk : k = 0 ∨ k = 1 ∨ k = 2 := by omega
    rcases hk with rfl | rfl | rfl
    · have hput : (Instr.mapUpdate 61 (.map (some W.heap.size)) (.int .u8 ((⟨#[92, 34]⟩ : ByteArray)[0]'(by decide)).toNat) (.int .u8 ((⟨#[92, 34]⟩ : ByteArray)[0]'(by decide)).toNat)).run Tryd.prog wr.drew = .ok () (putM wr.drew W.heap.size (begL false 1)) := put_map (show MapAt wr.drew W.heap.size (begL false 0) from hm) 92 92 rfl
      have hm1 := putM_at wr.drew W.heap.size (begL false 1) (show W.heap.size < wr.drew.heap.size by show W.heap.size < wr.heap.size; omega)
      have hr1 : RdAt (putM wr.drew W.heap.size (begL false 1)) (W.heap.size + 1) (rd0 false t W.heap.size) := (putM_other wr.drew _ _ _ (by omega)).trans hr.drew
      go_wp2_with fail
      go_region
      all_goals
        go_wp2
        go_roundw
        case rel => exact ⟨1, by omega, rfl, hr1, hm1, hb.drew.trans (putM_below (Nat.le_refl _))⟩
        case measure => simp [intOf]
    · have hput : (Instr.mapUpdate 61 (.map (some W.heap.size)) (.int .u8 ((⟨#[92, 34]⟩ : ByteArray)[1]'(by decide)).toNat) (.int .u8 ((⟨#[92, 34]⟩ : ByteArray)[1]'(by decide)).toNat)).run Tryd.prog wr.drew = .ok () (putM wr.drew W.heap.size (begL false 2)) := put_map (show MapAt wr.drew W.heap.size (begL false 1) from hm) 34 34 rfl
      have hm1 := putM_at wr.drew W.heap.size (begL false 2) (show W.heap.size < wr.drew.heap.size by show W.heap.size < wr.heap.size; omega)
      have hr1 : RdAt (putM wr.drew W.heap.size (begL false 2)) (W.heap.size + 1) (rd0 false t W.heap.size) := (putM_other wr.drew _ _ _ (by omega)).trans hr.drew
      go_wp2_with fail
      go_region
      all_goals
        go_wp2
        go_roundw
        case rel => exact ⟨2, by omega, rfl, hr1, hm1, hb.drew.trans (putM_below (Nat.le_refl _))⟩
        case measure => simp [intOf]
    · go_wp2_with (go_at_call 28; refine (expect_any _ _ _ hr hs q).mono ?_; rintro e w2 ⟨⟨v, rfl⟩, h2, hO⟩)
      go_ret
      exact ⟨_, _, rfl, by omega, Nat.le_refl _, by omega, h2, (hO.block _ (by omega) (by omega)).trans hm, hb.trans (hO.below (by omega) hb.size)⟩

set_option maxRecDepth 100000 in
set_option maxHeartbeats 4000000 in
theorem begin_cls (t : ByteArray) (hs : t.size ≤ 1000000000) (q : UInt8) (W : World) :
    Calls Tryd.prog 26 #[.string t, .int .u8 q.toNat, .string ⟨#[92, 93, 45, 94]⟩] W fun e w' => ∃ b mb, e = .returned (.pointer (some ⟨b, 0, none⟩)) ∧ W.heap.size ≤ b ∧ W.heap.size ≤ mb ∧ mb ≠ b ∧ RdAt w' b ((rd0 true t mb).expect q) ∧ MapAt w' mb (behL true) ∧ Below W.heap.size W w' := by
  have hsz : W.heap.size < (W.alloc (.map #[] 0)).heap.size := by simp
  have p0 := run_makeMap_plain (P := Tryd.prog) W 61
  have m0 : MapAt (W.alloc (.map #[] 0)) W.heap.size [] := World.alloc_heap_new W _
  have p1 : (Instr.mapUpdate 61 (.map (some W.heap.size)) (.int .u8 110) (.int .u8 10)).run Tryd.prog (W.alloc (.map #[] 0)) = .ok () (putM (W.alloc (.map #[] 0)) W.heap.size [(110, 10)]) := put_map m0 110 10 rfl
  have m1 := putM_at (W.alloc (.map #[] 0)) W.heap.size [(110, 10)] hsz
  have p2 : (Instr.mapUpdate 61 (.map (some W.heap.size)) (.int .u8 114) (.int .u8 13)).run Tryd.prog (putM (W.alloc (.map #[] 0)) W.heap.size [(110, 10)]) = .ok () (putM (putM (W.alloc (.map #[] 0)) W.heap.size [(110, 10)]) W.heap.size [(110, 10), (114, 13)]) := put_map m1 114 13 rfl
  have m2 := putM_at (putM (W.alloc (.map #[] 0)) W.heap.size [(110, 10)]) W.heap.size [(110, 10), (114, 13)] (by rw [putM_size]; exact hsz)
  have p3 : (Instr.mapUpdate 61 (.map (some W.heap.size)) (.int .u8 116) (.int .u8 9)).run Tryd.prog (putM (putM (W.alloc (.map #[] 0)) W.heap.size [(110, 10)]) W.heap.size [(110, 10), (114, 13)]) = .ok () (putM (putM (putM (W.alloc (.map #[] 0)) W.heap.size [(110, 10)]) W.heap.size [(110, 10), (114, 13)]) W.heap.size [(110, 10), (114, 13), (116, 9)]) := put_map m2 116 9 rfl
  have m3 := putM_at (putM (putM (W.alloc (.map #[] 0)) W.heap.size [(110, 10)]) W.heap.size [(110, 10), (114, 13)]) W.heap.size [(110, 10), (114, 13), (116, 9)] (by rw [putM_size, putM_size]; exact hsz)
  have hXs : (putM (putM (putM (W.alloc (.map #[] 0)) W.heap.size [(110, 10)]) W.heap.size [(110, 10), (114, 13)]) W.heap.size [(110, 10), (114, 13), (116, 9)]).heap.size = W.heap.size + 1 := by rw [putM_size, putM_size, putM_size]; simp
  have hXb : Below W.heap.size W (putM (putM (putM (W.alloc (.map #[] 0)) W.heap.size [(110, 10)]) W.heap.size [(110, 10), (114, 13)]) W.heap.size [(110, 10), (114, 13), (116, 9)]) := (((((Below.refl _ W).alloc (Nat.le_refl _) _).trans (putM_below (Nat.le_refl _))).trans (putM_below (Nat.le_refl _))).trans (putM_below (Nat.le_refl _)))
  clear m0 m1 m2
  go_enter Tryd.func26, Tryd.ntmps26
  go_wp2_with fail
  clear p0 p1 p2 p3 hsz
  try rw [hXs]
  revert m3 hXs hXb
  generalize (putM (putM (putM (W.alloc (.map #[] 0)) W.heap.size [(110, 10)]) W.heap.size [(110, 10), (114, 13)]) W.heap.size [(110, 10), (114, 13), (116, 9)]) = X
  intro m3 hXs hXb
  have hXlt : W.heap.size < X.heap.size := by omega
  have hr0 : RdAt (X.alloc (.cells #[.string t, .string ⟨#[92, 93, 45, 94]⟩, .map (some W.heap.size), .int .i64 0, .int .i64 0] 63)) (W.heap.size + 1) (rd0 true t W.heap.size) := by rw [← hXs]; exact World.alloc_heap_new X _
  have hm0 : MapAt (X.alloc (.cells #[.string t, .string ⟨#[92, 93, 45, 94]⟩, .map (some W.heap.size), .int .i64 0, .int .i64 0] 63)) W.heap.size (begL true 0) := (Below.heap_alloc _ _ _ hXlt).trans m3
  go_loopw [8] (fun i wr => ∃ k : Nat, k ≤ 4 ∧ i = .int .i64 k ∧ RdAt wr (W.heap.size + 1) (rd0 true t W.heap.size) ∧ MapAt wr W.heap.size (begL true k) ∧ Below W.heap.size W wr) (fun i _ => 4 - (intOf i).toNat)
  case atStart => exact ⟨0, by omega, rfl, hr0, hm0, hXb.alloc (by omega) _⟩
  case round =>
    obtain ⟨k, hk, rfl, hr, hm, hb⟩ := hrel
    clear hr0 hm0 m3 hXb hXlt
    obtain ⟨x0, x1, x2, x3, x4⟩ := hr.cells
    replace x2 : wr.cell? ⟨W.heap.size + 1, 2, none⟩ = some (.map (some W.heap.size)) := x2
    have hrl := hr.lt
    have hk : k = 0 ∨ k = 1 ∨ k = 2 ∨ k = 3 ∨ k = 4 := by omega
    rcases hk with rfl | rfl | rfl | rfl | rfl
    · have hput : (Instr.mapUpdate 61 (.map (some W.heap.size)) (.int .u8 ((⟨#[92, 93, 45, 94]⟩ : ByteArray)[0]'(by decide)).toNat) (.int .u8 ((⟨#[92, 93, 45, 94]⟩ : ByteArray)[0]'(by decide)).toNat)).run Tryd.prog wr.drew = .ok () (putM wr.drew W.heap.size (begL true 1)) := put_map (show MapAt wr.drew W.heap.size (begL true 0) from hm) 92 92 rfl
      have hm1 := putM_at wr.drew W.heap.size (begL true 1) (show W.heap.size < wr.drew.heap.size by show W.heap.size < wr.heap.size; omega)
      have hr1 : RdAt (putM wr.drew W.heap.size (begL true 1)) (W.heap.size + 1) (rd0 true t W.heap.size) := (putM_other wr.drew _ _ _ (by omega)).trans hr.drew
      go_wp2_with fail
      go_region
      all_goals
        go_wp2
        go_roundw
        case rel => exact ⟨1, by omega, rfl, hr1, hm1, hb.drew.trans (putM_below (Nat.le_refl _))⟩
        case measure => simp [intOf]
    · have hput : (Instr.mapUpdate 61 (.map (some W.heap.size)) (.int .u8 ((⟨#[92, 93, 45, 94]⟩ : ByteArray)[1]'(by decide)).toNat) (.int .u8 ((⟨#[92, 93, 45, 94]⟩ : ByteArray)[1]'(by decide)).toNat)).run Tryd.prog wr.drew = .ok () (putM wr.drew W.heap.size (begL true 2)) := put_map (show MapAt wr.drew W.heap.size (begL true 1) from hm) 93 93 rfl
      have hm1 := putM_at wr.drew W.heap.size (begL true 2) (show W.heap.size < wr.drew.heap.size by show W.heap.size < wr.heap.size; omega)
      have hr1 : RdAt (putM wr.drew W.heap.size (begL true 2)) (W.heap.size + 1) (rd0 true t W.heap.size) := (putM_other wr.drew _ _ _ (by omega)).trans hr.drew
      go_wp2_with fail
      go_region
      all_goals
        go_wp2
        go_roundw
        case rel => exact ⟨2, by omega, rfl, hr1, hm1, hb.drew.trans (putM_below (Nat.le_refl _))⟩
        case measure => simp [intOf]
    · have hput : (Instr.mapUpdate 61 (.map (some W.heap.size)) (.int .u8 ((⟨#[92, 93, 45, 94]⟩ : ByteArray)[2]'(by decide)).toNat) (.int .u8 ((⟨#[92, 93, 45, 94]⟩ : ByteArray)[2]'(by decide)).toNat)).run Tryd.prog wr.drew = .ok () (putM wr.drew W.heap.size (begL true 3)) := put_map (show MapAt wr.drew W.heap.size (begL true 2) from hm) 45 45 rfl
      have hm1 := putM_at wr.drew W.heap.size (begL true 3) (show W.heap.size < wr.drew.heap.size by show W.heap.size < wr.heap.size; omega)
      have hr1 : RdAt (putM wr.drew W.heap.size (begL true 3)) (W.heap.size + 1) (rd0 true t W.heap.size) := (putM_other wr.drew _ _ _ (by omega)).trans hr.drew
      go_wp2_with fail
      go_region
      all_goals
        go_wp2
        go_roundw
        case rel => exact ⟨3, by omega, rfl, hr1, hm1, hb.drew.trans (putM_below (Nat.le_refl _))⟩
        case measure => simp [intOf]
    · have hput : (Instr.mapUpdate 61 (.map (some W.heap.size)) (.int .u8 ((⟨#[92, 93, 45, 94]⟩ : ByteArray)[3]'(by decide)).toNat) (.int .u8 ((⟨#[92, 93, 45, 94]⟩ : ByteArray)[3]'(by decide)).toNat)).run Tryd.prog wr.drew = .ok () (putM wr.drew W.heap.size (begL true 4)) := put_map (show MapAt wr.drew W.heap.size (begL true 3) from hm) 94 94 rfl
      have hm1 := putM_at wr.drew W.heap.size (begL true 4) (show W.heap.size < wr.drew.heap.size by show W.heap.size < wr.heap.size; omega)
      have hr1 : RdAt (putM wr.drew W.heap.size (begL true 4)) (W.heap.size + 1) (rd0 true t W.heap.size) := (putM_other wr.drew _ _ _ (by omega)).trans hr.drew
      go_wp2_with fail
      go_region
      all_goals
        go_wp2
        go_roundw
        case rel => exact ⟨4, by omega, rfl, hr1, hm1, hb.drew.trans (putM_below (Nat.le_refl _))⟩
        case measure => simp [intOf]
    · go_wp2_with (go_at_call 28; refine (expect_any _ _ _ hr hs q).mono ?_; rintro e w2 ⟨⟨v, rfl⟩, h2, hO⟩)
      go_ret
      exact ⟨_, _, rfl, by omega, Nat.le_refl _, by omega, h2, (hO.block _ (by omega) (by omega)).trans hm, hb.trans (hO.below (by omega) hb.size)⟩
end Go.Proofs.YtjaklcmadkpmdaaDoor
