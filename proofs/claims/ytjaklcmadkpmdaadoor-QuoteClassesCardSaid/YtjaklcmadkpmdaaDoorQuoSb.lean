/- Sets: with, Or, Range. -/
import Derived.WalkKit
import Derived.WalkSpells
import Derived.WalkLawsBesides
import Derived.Laws.BitsAllLaws
import Derived.Lib.Hide
import Derived.RegionTactic
import Derived.OneCell
import Derived.StillTailTactics
import Derived.ChangeAlike
import Derived.Shelf.Spec.TrailingZeros
import Derived.Test.YtjaklcmadkpmdaaDoorSetW
import Derived.RangeFuncBox
import Derived.RangeFuncCalls
import Derived.RangeFuncLeaves
import Derived.Test.YtjaklcmadkpmdaaDoorQuoY
section
namespace Go.Proofs.YtjaklcmadkpmdaaDoor
open Go.RowKit

theorem or_pow (x j : Nat) (hx : x < 18446744073709551616) (hj : j < 64) : bits BinOp.or IntKind.u64 (x : Int) (IntKind.u64.wrap (2 ^ j)) = ((x ||| 2 ^ j : Nat) : Int) := by
  have hp := S4.pow_lt hj
  have e : IntKind.u64.wrap (2 ^ j) = ((2 ^ j : Nat) : Int) := by
    have e1 : ((2 : Int) ^ j) = ((2 ^ j : Nat) : Int) := (Int.natCast_pow 2 j).symm
    rw [e1, IntKind.wrap_u64]
    generalize 2 ^ j = y at hp
    omega
  rw [e, u64_or_nat x _ hx hp]

set_option maxHeartbeats 400000 in
theorem with_0 (s : S4) (hs : s.ok) (b : Nat) (hb : b / 64 = 0) (w : World) :
    Calls Tryd.prog 40 #[s.v, .int .u8 b] w fun e w' => e = .returned (s.wth b).v ∧ Below w.heap.size w w' := by
  obtain ⟨j, hj⟩ : ∃ j, b % 64 = j := ⟨_, rfl⟩
  have hj1 : j < 64 := by omega
  have H := Lib.hid (or_pow s.a j hs.1 hj1)
  have E : Hid ((s.wth b).v = .agg #[.int .u64 ((s.a ||| 2 ^ j : Nat) : Int), .int .u64 s.b, .int .u64 s.c, .int .u64 s.d]) := by
    unfold Hid
    simp [S4.v, S4.wth, hb, hj]
  rw [E.out]
  have hq : (b : Int) / 64 = 0 := by omega
  have hr : (b : Int) % 64 = j := by omega
  have hb1 : b < 256 := by omega
  clear hb hj
  go_enter Tryd.func40, Tryd.ntmps40
  go_wp2
  rw [H.out]
  refine bodyPost_ret (v := .agg #[.int .u64 ((s.a ||| 2 ^ j : Nat) : Int), .int .u64 s.b, .int .u64 s.c, .int .u64 s.d]) (by simp [results, Tryd.results40, go_sem]) rfl ⟨rfl, ?_⟩
  exact ((Below.refl _ _).alloc (Nat.le_refl _) _).alloc (by simp) _

set_option maxHeartbeats 400000 in
theorem with_1 (s : S4) (hs : s.ok) (b : Nat) (hb : b / 64 = 1) (w : World) :
    Calls Tryd.prog 40 #[s.v, .int .u8 b] w fun e w' => e = .returned (s.wth b).v ∧ Below w.heap.size w w' := by
  obtain ⟨j, hj⟩ : ∃ j, b % 64 = j := ⟨_, rfl⟩
  have hj1 : j < 64 := by omega
  have H := Lib.hid (or_pow s.b j hs.2.1 hj1)
  have E : Hid ((s.wth b).v = .agg #[.int .u64 s.a, .int .u64 ((s.b ||| 2 ^ j : Nat) : Int), .int .u64 s.c, .int .u64 s.d]) := by
    unfold Hid
    simp [S4.v, S4.wth, hb, hj]
  rw [E.out]
  have hq : (b : Int) / 64 = 1 := by omega
  have hr : (b : Int) % 64 = j := by omega
  have hb1 : b < 256 := by omega
  clear hb hj
  go_enter Tryd.func40, Tryd.ntmps40
  go_wp2
  rw [H.out]
  refine bodyPost_ret (v := .agg #[.int .u64 s.a, .int .u64 ((s.b ||| 2 ^ j : Nat) : Int), .int .u64 s.c, .int .u64 s.d]) (by simp [results, Tryd.results40, go_sem]) rfl ⟨rfl, ?_⟩
  exact ((Below.refl _ _).alloc (Nat.le_refl _) _).alloc (by simp) _

set_option maxHeartbeats 400000 in
theorem with_2 (s : S4) (hs : s.ok) (b : Nat) (hb : b / 64 = 2) (w : World) :
    Calls Tryd.prog 40 #[s.v, .int .u8 b] w fun e w' => e = .returned (s.wth b).v ∧ Below w.heap.size w w' := by
  obtain ⟨j, hj⟩ : ∃ j, b % 64 = j := ⟨_, rfl⟩
  have hj1 : j < 64 := by omega
  have H := Lib.hid (or_pow s.c j hs.2.2.1 hj1)
  have E : Hid ((s.wth b).v = .agg #[.int .u64 s.a, .int .u64 s.b, .int .u64 ((s.c ||| 2 ^ j : Nat) : Int), .int .u64 s.d]) := by
    unfold Hid
    simp [S4.v, S4.wth, hb, hj]
  rw [E.out]
  have hq : (b : Int) / 64 = 2 := by omega
  have hr : (b : Int) % 64 = j := by omega
  have hb1 : b < 256 := by omega
  clear hb hj
  go_enter Tryd.func40, Tryd.ntmps40
  go_wp2
  rw [H.out]
  refine bodyPost_ret (v := .agg #[.int .u64 s.a, .int .u64 s.b, .int .u64 ((s.c ||| 2 ^ j : Nat) : Int), .int .u64 s.d]) (by simp [results, Tryd.results40, go_sem]) rfl ⟨rfl, ?_⟩
  exact ((Below.refl _ _).alloc (Nat.le_refl _) _).alloc (by simp) _

set_option maxHeartbeats 400000 in
theorem with_3 (s : S4) (hs : s.ok) (b : Nat) (hb : b / 64 = 3) (w : World) :
    Calls Tryd.prog 40 #[s.v, .int .u8 b] w fun e w' => e = .returned (s.wth b).v ∧ Below w.heap.size w w' := by
  obtain ⟨j, hj⟩ : ∃ j, b % 64 = j := ⟨_, rfl⟩
  have hj1 : j < 64 := by omega
  have H := Lib.hid (or_pow s.d j hs.2.2.2 hj1)
  have E : Hid ((s.wth b).v = .agg #[.int .u64 s.a, .int .u64 s.b, .int .u64 s.c, .int .u64 ((s.d ||| 2 ^ j : Nat) : Int)]) := by
    unfold Hid
    simp [S4.v, S4.wth, hb, hj]
  rw [E.out]
  have hq : (b : Int) / 64 = 3 := by omega
  have hr : (b : Int) % 64 = j := by omega
  have hb1 : b < 256 := by omega
  clear hb hj
  go_enter Tryd.func40, Tryd.ntmps40
  go_wp2
  rw [H.out]
  refine bodyPost_ret (v := .agg #[.int .u64 s.a, .int .u64 s.b, .int .u64 s.c, .int .u64 ((s.d ||| 2 ^ j : Nat) : Int)]) (by simp [results, Tryd.results40, go_sem]) rfl ⟨rfl, ?_⟩
  exact ((Below.refl _ _).alloc (Nat.le_refl _) _).alloc (by simp) _

theorem with_any (s : S4) (hs : s.ok) (b : Nat) (hb : b < 256) (w : World) :
    Calls Tryd.prog 40 #[s.v, .int .u8 b] w fun e w' => e = .returned (s.wth b).v ∧ Below w.heap.size w w' := by
  have hq : b / 64 = 0 ∨ b / 64 = 1 ∨ b / 64 = 2 ∨ b / 64 = 3 := by omega
  rcases hq with h | h | h | h
  · exact with_0 s hs b h w
  · exact with_1 s hs b h w
  · exact with_2 s hs b h w
  · exact with_3 s hs b h w

set_option maxHeartbeats 1000000 in
theorem or_any (s t : S4) (hs : s.ok) (ht : t.ok) (w : World) :
    Calls Tryd.prog 34 #[s.v, t.v] w fun e w' => e = .returned (s.or t).v ∧ Below w.heap.size w w' := by
  have H0 := Lib.hid (u64_or_nat s.a t.a hs.1 ht.1)
  have H1 := Lib.hid (u64_or_nat s.b t.b hs.2.1 ht.2.1)
  have H2 := Lib.hid (u64_or_nat s.c t.c hs.2.2.1 ht.2.2.1)
  have H3 := Lib.hid (u64_or_nat s.d t.d hs.2.2.2 ht.2.2.2)
  have E : Hid ((s.or t).v = .agg #[.int .u64 ((s.a ||| t.a : Nat) : Int), .int .u64 ((s.b ||| t.b : Nat) : Int), .int .u64 ((s.c ||| t.c : Nat) : Int), .int .u64 ((s.d ||| t.d : Nat) : Int)]) := rfl
  rw [E.out]
  clear hs ht
  go_enter Tryd.func34, Tryd.ntmps34
  go_wp2
  refine wp_loop_rounds 5 ?_
  iterate 4 (rw [rounds_succ]; go_wp2; go_region; go_wp2)
  rw [rounds_succ]; go_wp2
  rw [H0.out, H1.out, H2.out, H3.out]
  refine bodyPost_ret (v := .agg #[.int .u64 ((s.a ||| t.a : Nat) : Int), .int .u64 ((s.b ||| t.b : Nat) : Int), .int .u64 ((s.c ||| t.c : Nat) : Int), .int .u64 ((s.d ||| t.d : Nat) : Int)]) (by simp [results, Tryd.results34, go_sem]) rfl ⟨rfl, ?_⟩
  repeat' (first | exact Below.refl _ _ | refine Below.drew ?_ | refine Below.alloc ?_ ?_ _ | omega | (simp; done) | (simp; omega))

set_option maxHeartbeats 1000000 in
theorem range_any (a b : Nat) (ha : a < 256) (hb : b < 256) (w : World) :
    Calls Tryd.prog 35 #[.int .u8 a, .int .u8 b] w fun e w' => e = .returned (S4.nil.ofL (List.range' a (b + 1 - a))).v ∧ Below w.heap.size w w' := by
  go_enter Tryd.func35, Tryd.ntmps35
  go_wp2
  go_loopw [6] (fun i wr => ∃ (k : Nat) (t : S4), k ≤ b + 1 - a ∧ i = .int .i64 ((a : Int) + (k : Int)) ∧ t.ok ∧ t = S4.nil.ofL (List.range' a k) ∧
      Box4 wr (w.heap.size + 1) t ∧ Box4 wr w.heap.size S4.nil ∧ Below w.heap.size w wr)
    (fun i _ => b + 1 - (intOf i).toNat)
  case atStart => 
    refine ⟨0, S4.nil, Nat.zero_le _, by simp, S4.ok_nil, rfl, ?_, ?_, ?_⟩
    · have h := Box4.new (w.alloc (.cells #[.int .u64 0, .int .u64 0, .int .u64 0, .int .u64 0] 31)) S4.nil
      rw [World.size_alloc] at h
      exact h
    · exact (Box4.new w S4.nil).alloc _
    · exact ((Below.refl _ w).alloc (Nat.le_refl _) _).alloc (by simp) _
  case round =>
    obtain ⟨k, t, hk, rfl, hok, ht, hX, hR, hB⟩ := hrel
    have HT := Lib.hid ht
    clear ht
    obtain ⟨c0, c1, c2, c3⟩ := hX.cells
    have hsz := hX.lt
    by_cases hlt : (a : Int) + (k : Int) ≤ b
    · go_wp2_with fail
      have e0 : (a : Int) + (k : Int) = ((a + k : Nat) : Int) := by omega
      have hak : a + k < 256 := by omega
      rw [e0]
      refine (with_any t hok (a + k) hak _).mono ?_
      rintro e w1 ⟨rfl, hb1⟩
      have hsz1 := hb1.size
      have hX1 := hX.below hb1 hX.lt
      have hR1 := hR.below hb1 hR.lt
      obtain ⟨d0, d1, d2, d3⟩ := hX1.cells
      obtain ⟨f0, f1, f2, f3⟩ := hX1.free
      clear c0 c1 c2 c3 e0
      go_wp2
      go_roundw
      case rel =>
        refine ⟨k + 1, t.wth (a + k), by omega, by go_num, S4.ok_wth hok _, ?_, hX1.store _, ?_, ?_⟩
        · rw [List.range'_1_concat, S4.ofL_snoc, ← HT.out]
        · exact (((hR1.other (by simp) _).other (by simp) _).other (by simp) _).other (by simp) _
        · exact ((((hB.trans (hb1.mono (by omega))).setCell (by simp) _).setCell (by simp) _).setCell (by simp) _).setCell (by simp) _
      case measure => simp [intOf]; omega
    · obtain ⟨r0, r1, r2, r3⟩ := hR.cells
      obtain ⟨f0, f1, f2, f3⟩ := hR.free
      go_wp2
      refine Box4.result (b := w.heap.size) Tryd.results35 rfl rfl (hR.store t) ⟨?_, ?_⟩
      · obtain rfl : k = b + 1 - a := by omega
        rw [HT.out]
      · exact (((hB.setCell (Nat.le_refl _) _).setCell (Nat.le_refl _) _).setCell (Nat.le_refl _) _).setCell (Nat.le_refl _) _

end Go.Proofs.YtjaklcmadkpmdaaDoor
end
section
set_option linter.unusedVariables false
set_option linter.unusedSimpArgs false
namespace Go
open Go.RowKit
/-- The same, but that memory may not run out. -/
def noOut (Q : Exit → Act → World → Prop) : Exit → Act → World → Prop
  | .outgrown, _, _ => False
  | .normal, a, w => Q .normal a w
  | .ret, a, w => Q .ret a w
  | .exit i, a, w => Q (.exit i) a w
  | .goto i, a, w => Q (.goto i) a w
  | .panic c, a, w => Q (.panic c) a w
def noDefer (ops : Array Oper) : Bool := ops.toList.all fun o => match o.op with | .defer _ => false | _ => true
theorem noDefer_at {ops : Array Oper} (h : noDefer ops = true) {i : Nat} {o : Oper} (ho : ops[i]? = some o) : ∀ c, o.op ≠ .defer c := fun c hc => by
  unfold noDefer at h
  rw [List.all_eq_true] at h
  have hm : o ∈ ops.toList := Array.mem_toList_iff.2 (Array.mem_of_getElem? ho)
  have := h o hm
  rw [hc] at this
  cases this
theorem not_letsOut {Q : Exit → Act → World → Prop} (h : LetsOut (noOut Q)) : False := by
  obtain ⟨a, w, h⟩ := h
  exact h

theorem wpOps_inRound {l n : Nat} {P : Program} {ops : Array Oper} {Q : Exit → Act → World → Prop} (hnd : noDefer ops = true) : ∀ (rest : List Nat) (a : Act) (w : World), wpOps P ops (noOut Q) rest a w → wpOpsIn (Fence.wide.inRound l) n P ops Q rest a w
  | [], _, _, h => h
  | i :: rest, a, w, h => by
    have ih := wpOps_inRound (l := l) (n := n) (P := P) (Q := Q) hnd rest
    simp only [wpOps] at h
    simp only [wpOpsIn]
    cases ho : ops[i]? with
    | none =>
      rw [ho] at h
      exact ih a w h
    | some o =>
      rw [ho] at h
      dsimp only at h ⊢
      split
      · rename_i hw
        rw [if_pos hw] at h
        rcases h with h | ⟨_, h⟩
        · refine ⟨fun _ _ => trivial, ?_⟩
          rw [Oper.semAt_eq _ _ _ (noDefer_at hnd ho)]
          unfold Oper.wp at h
          generalize (execOp a.eval o).run P w = r at *
          cases r with
          | ok x w' =>
            cases x <;> simp only [Oper.upon, Oper.uponIn] at h ⊢
            case value v => exact ih _ _ h
            case skip => exact ih _ _ h
            case defer d => exact ih _ _ h
            case enter f args =>
              refine ⟨fun k => absurd k (by simp [Fence.wide]), CallsIn.mono ((callsIn_wide (n := n - 1)).2 h) fun e w'' he => ?_⟩
              cases e with
              | returned v => exact ih _ _ he
              | panicked c => exact he
              | outgrown => exact (not_letsOut he).elim
            case row row args =>
              refine ⟨fun k => absurd k (by simp [Fence.wide]), fun c cs _ => ?_⟩
              obtain ⟨v, w'', hr, hs⟩ := h c cs
              exact ⟨v, w'', ih _ _ hr, stepsIn_wide.2 hs⟩
          | halt x w' =>
            cases x <;> simp only [Oper.upon, Oper.uponIn] at h ⊢
            case panic v => exact h
        · exact (not_letsOut h).elim
      · rename_i hw
        rw [if_neg hw] at h
        exact ⟨fun _ _ => trivial, ih _ _ h⟩

/-- A region whose order is drawn, within a round, by what S says of the world. -/
theorem wpIn_region_held_round {l n id : Nat} {P : Program} {ops : Array Oper} {Q : Exit → Act → World → Prop} {S : World → Prop} {a : Act} {w : World} (hm : P.follows .mixedOrders = true) (hnd : noDefer ops = true) (hS : S w.drew)
    (h : S w.drew → wpAnyH P .any ops (noOut Q) S ops.size (Array.replicate ops.size false) a w.drew) : (Code.region id ops true).wpIn (Fence.wide.inRound l) n P Q a w :=
  wpIn_region_draw fun t => by
    simp only [Region.schedule, hm, Bool.true_or, if_true]
    exact wpOps_inRound hnd _ _ _ (wpAny_sound ops.size t _ a _ (wpAny_of_held _ _ _ _ (h hS)))
end Go

namespace Go.Proofs.YtjaklcmadkpmdaaDoor
open Go Go.RowKit Go.Shelf
attribute [local go_sem] Oper.semAt_some

/-- The set of the bytes from one to another. -/
def rg (x y : UInt8) : S4 := S4.nil.ofL (List.range' x.toNat (y.toNat + 1 - x.toNat))
/-- One item of a class: what is left, and its two ends. -/
def Rd.item (r : Rd) : Rd × UInt8 × UInt8 :=
  if (r.sign true).2.e ≠ 0 then ((r.sign true).2, 0, 0)
  else
    let p := if (r.sign true).2.next 45 = true then (r.sign true).2.up.sign true else r.sign true
    if p.2.e = 0 ∧ p.1.toNat < (r.sign true).1.toNat then ({ p.2 with at' := r.at', e := 4 }, 0, 0) else (p.2, (r.sign true).1, p.1)
/-- The items that stand here. -/
def Rd.items : Nat → Rd → S4 → S4 × Rd
  | 0, r, S => (S, r)
  | n + 1, r, S => if r.e = 0 ∧ r.begins true = true then
      (if r.item.1.e ≠ 0 then (S, r.item.1) else r.item.1.items n (S.or (rg r.item.2.1 r.item.2.2)))
    else (S, r)
/-- What a class's text comes to: its set, how many bytes it has, what is wrong. -/
def uncl (t : ByteArray) (mb n : Nat) : S4 × Nat × Nat :=
  let r := (rd0 true t mb).expect 91
  let other := decide (r.e = 0) && r.next 94
  let p := (if other then r.up else r).items n S4.nil
  let f := p.2.expect 93
  if f.e ≠ 0 then (S4.nil, f.at', f.e) else ((if other then p.1.not else p.1), f.at', 0)
def unclV (p : S4 × Nat × Nat) : Value := .tuple #[p.1.v, .int .i64 p.2.1, .int .i64 p.2.2]

theorem item_one {s u : Rd} {x : UInt8} (h : s.sign true = (x, u)) (he : u.e = 0) (hn : u.next 45 = false) : s.item = (u, x, x) := by
  unfold Rd.item
  simp [h, he, hn]
theorem item_two {s u v : Rd} {x y : UInt8} (h : s.sign true = (x, u)) (he : u.e = 0) (hn : u.next 45 = true) (h2 : u.up.sign true = (y, v)) :
    s.item = if v.e = 0 ∧ y.toNat < x.toNat then ({ v with at' := s.at', e := 4 }, 0, 0) else (v, x, y) := by
  unfold Rd.item
  simp [h, he, hn, h2]

/-- Where a walk along the items stands. -/
def GoneC (r0 : Rd) (S : S4) (s : Rd) : Prop := ∃ k, k ≤ s.at' ∧ ∀ M, r0.items (k + M) S4.nil = s.items M S
theorem GoneC.start (r0 : Rd) : GoneC r0 S4.nil r0 := ⟨0, Nat.zero_le _, fun M => by simp⟩
theorem GoneC.fin {r0 s f : Rd} {S : S4} (h : GoneC r0 S s) (hf : FinR true s f) (n : Nat) (hn : s.at' < n) : r0.items n S4.nil = (S, f) := by
  obtain ⟨k, hk, h⟩ := h
  obtain ⟨m, rfl⟩ : ∃ m, n = k + (m + 1) := ⟨n - k - 1, by omega⟩
  rw [h, Rd.items]
  rcases hf with ⟨h1, rfl⟩ | ⟨h1, h2, rfl, h4⟩
  · rw [if_neg h1]
  · have e : s.item = ((s.sign true).2, 0, 0) := by unfold Rd.item; rw [if_pos h4]
    rw [if_pos ⟨h1, h2⟩, e, if_pos h4]
/-- Behind an item. -/
theorem GoneC.step {r0 s u : Rd} {S : S4} {x y : UInt8} (h : GoneC r0 S s) (h1 : s.e = 0) (h2 : s.begins true = true) (hi : s.item = (u, x, y)) (hu : u.e = 0) (hlt : s.at' < u.at') : GoneC r0 (S.or (rg x y)) u := by
  obtain ⟨k, hk, h⟩ := h
  refine ⟨k + 1, by omega, fun M => ?_⟩
  rw [show k + 1 + M = k + (M + 1) by omega, h, Rd.items, if_pos ⟨h1, h2⟩, hi, if_neg (by simpa using hu)]
/-- An item that is none. -/
theorem GoneC.bad {r0 s u : Rd} {S : S4} {x y : UInt8} (h : GoneC r0 S s) (h1 : s.e = 0) (h2 : s.begins true = true) (hi : s.item = (u, x, y)) (hu : u.e ≠ 0) (n : Nat) (hn : s.at' < n) : r0.items n S4.nil = (S, u) := by
  obtain ⟨k, hk, h⟩ := h
  obtain ⟨m, rfl⟩ : ∃ m, n = k + (m + 1) := ⟨n - k - 1, by omega⟩
  rw [h, Rd.items, if_pos ⟨h1, h2⟩, hi, if_pos hu]

end Go.Proofs.YtjaklcmadkpmdaaDoor
end
