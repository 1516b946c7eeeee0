/- cost.Sum: of whole parts, and of parts that are no numbers. -/
import Derived.WalkKit
import Derived.WalkMore
import Derived.TacticsInMore
import Derived.Laws.Externs
import Derived.Laws.NewFold
import Derived.Deep.QuietTactic
import Derived.BigQuiet
import Derived.Test.YtpanelgdfhpoaaaGreatDoorProg
import Derived.Test.YtpanelgdfhpoaaaGreatDoorCosF
namespace Go.Proofs.YtpanelgdfhpoaaaGreatDoor
open Go.RowKit Ieee

theorem F_bound : F 1099511627776 = 4787326403894837248 := by decide +kernel
theorem F_lower : F (-1099511627776) = 14010698440749613056 := by decide +kernel

theorem cut_above {n : Int} (h0 : -1000000000 ≤ n) (h1 : n ≤ 1000000000) : FloatKind.f64.format.order 4787326403894837248 (F n) = some .gt := by
  rw [← F_bound, F_order (by decide) (by omega), Int.compare_eq_gt.2 (by omega)]
theorem cut_below {n : Int} (h0 : -1000000000 ≤ n) (h1 : n ≤ 1000000000) : FloatKind.f64.format.order 14010698440749613056 (F n) = some .lt := by
  rw [← F_lower, F_order (by decide) (by omega), Int.compare_eq_lt.2 (by omega)]
theorem same_order {n : Int} (h0 : -1000000000 ≤ n) (h1 : n ≤ 1000000000) : FloatKind.f64.format.order (F n) (F n) = some .eq := by
  rw [F_order (by omega) (by omega), Int.compare_eq_eq.2 rfl]

theorem run_min {n : Int} (h0 : -1000000000 ≤ n) (h1 : n ≤ 1000000000) (ts : Array TypeId) (t : TypeId) (P : Program) (w : World) :
    (Builtin.min_ ts t #[.float .f64 4787326403894837248, .float .f64 (F n)]).run P w = .ok (.float .f64 (F n)) w := by
  have h := cut_above h0 h1
  unfold Builtin.min_
  simp [Builtin.min2, h]
theorem run_max {n : Int} (h0 : -1000000000 ≤ n) (h1 : n ≤ 1000000000) (ts : Array TypeId) (t : TypeId) (P : Program) (w : World) :
    (Builtin.max_ ts t #[.float .f64 14010698440749613056, .float .f64 (F n)]).run P w = .ok (.float .f64 (F n)) w := by
  have h := cut_below h0 h1
  unfold Builtin.max_
  simp [Builtin.max2, h]

theorem isnan_F {n : Int} (h0 : -1000000000 ≤ n) (h1 : n ≤ 1000000000) (w : World) :
    Calls Tryz.prog 18 #[.float .f64 (F n)] w fun e w' => e = .returned (.bool false) ∧ w' = w := by
  have h := same_order h0 h1
  go_enter Tryz.func18, Tryz.ntmps18
  go_wp2
  go_ret
  exact ⟨rfl, rfl⟩

theorem floor_at {x : Nat} {s : Bool} {m : Nat} {e : Int} (h : FloatKind.f64.decode x = .number s m e) (way : Toward) (nm : String) :
    Extern.MathFloor.toIntegral nm way #[.float .f64 x] = pure (.float .f64 (FloatKind.f64.encode ((Datum.number s m e).integral way))) := by
  have key : ∀ D : Datum, D = FloatKind.f64.decode x → D = .number s m e → Extern.MathFloor.toIntegral nm way #[.float .f64 x] = pure (.float .f64 (FloatKind.f64.encode ((Datum.number s m e).integral way))) := by
    intro D hD h2
    have e1 : ∀ (G : Nat → Sem Value) (K : Array Value → Sem Value), Extern.MathFloor.toIntegral.match_2 (fun _ => Sem Value) #[.float .f64 x] G K = G x := fun G K => rfl
    delta Extern.MathFloor.toIntegral
    rw [e1]
    rw [← hD]
    subst h2
    rfl
  exact key _ rfl h

theorem floor_run {n : Int} (h0 : -1000000000 ≤ n) (h1 : n ≤ 1000000000) (w : World) : (callFunc 29 #[.float .f64 (F n)]).run Tryz.prog w = .ok (.value (.float .f64 (F n))) w := by
  have hf := F_floor (n := n) (by omega)
  obtain ⟨p, _, hp⟩ := F_read (n := n) (by omega)
  rw [run_callFunc_extern (e := Extern.MathFloor.toIntegral "math.archFloor" .down) Tryz.func29 (by kernel_rfl) (by kernel_rfl) (by kernel_rfl) (by rfl)]
  rw [hp] at hf
  rw [floor_at hp, hf]
  rfl

set_option maxRecDepth 100000 in
theorem floor_F {n : Int} (h0 : -1000000000 ≤ n) (h1 : n ≤ 1000000000) (w : World) :
    Calls Tryz.prog 19 #[.float .f64 (F n)] w fun e w' => e = .returned (.float .f64 (F n)) ∧ w' = w := by
  have h := floor_run h0 h1 w
  go_enter Tryz.func19, Tryz.ntmps19
  go_wp2
  go_ret
  exact ⟨rfl, rfl⟩

set_option maxRecDepth 100000 in
theorem whole_F {n : Int} (h0 : -1000000000 ≤ n) (h1 : n ≤ 1000000000) (w : World) :
    Calls Tryz.prog 11 #[.float .f64 (F n)] w fun e w' => e = .returned (.int .i64 n) ∧ w' = w := by
  have hmin := run_min h0 h1
  have hmax := run_max h0 h1
  have hin : floatToIntVal .f64 (F n) .i64 = some n := by
    unfold floatToIntVal
    rw [F_toInt (by omega)]
    have : IntKind.i64.min ≤ n ∧ n ≤ IntKind.i64.max := by
      have a : IntKind.i64.min = -9223372036854775808 := by decide
      have b : IntKind.i64.max = 9223372036854775807 := by decide
      omega
    dsimp only
    rw [if_pos this]
  have hcv : ∀ w : World, (convert 24 3 (.float .f64 (F n))).run Tryz.prog w = .ok (.int .i64 n) w := fun w => run_convert_float_int w 24 3 .f64 .i64 (F n) n (by kernel_rfl) Tryz.underlying3 hin
  clear hin
  go_enter Tryz.func11, Tryz.ntmps11
  go_wp2_with (first
    | (go_at_call 18; (with_reducible refine (isnan_F h0 h1 _).mono ?_); rintro e w' ⟨rfl, rfl⟩)
    | (go_at_call 19; (with_reducible refine (floor_F h0 h1 _).mono ?_); rintro e w' ⟨rfl, rfl⟩))
  go_ret
  exact ⟨rfl, rfl⟩

theorem isnan_N {x : Nat} (h : FloatKind.f64.format.order x x = none) (w : World) :
    Calls Tryz.prog 18 #[.float .f64 x] w fun e w' => e = .returned (.bool true) ∧ w' = w := by
  go_enter Tryz.func18, Tryz.ntmps18
  go_wp2
  go_ret
  exact ⟨rfl, rfl⟩

theorem whole_N {x : Nat} (h : FloatKind.f64.format.order x x = none) (w : World) :
    Calls Tryz.prog 11 #[.float .f64 x] w fun e w' => e = .returned (.int .i64 0) ∧ w' = w := by
  go_enter Tryz.func11, Tryz.ntmps11
  go_wp2_with (go_at_call 18; (with_reducible refine (isnan_N h _).mono ?_); rintro e w' ⟨rfl, rfl⟩)
  go_ret
  exact ⟨rfl, rfl⟩

theorem nan_order {x : Nat} (h : 9218868437227405312 < x % 9223372036854775808) : FloatKind.f64.format.order x x = none := by
  have hr : ∃ s t, double.read x = .nan s t := by
    have hsw : double.signWeight = 9223372036854775808 := rfl
    have hbi : double.binade = 4503599627370496 := rfl
    have hin : double.infRung = 9218868437227405312 := by decide
    unfold Format.read
    simp only [hsw, hbi, hin]
    rw [if_neg (by omega), if_neg (by omega), if_neg (by omega)]
    exact ⟨_, _, rfl⟩
  obtain ⟨s, t, hr⟩ := hr
  unfold Format.order
  rw [show FloatKind.f64.format.read x = _ from hr]
  rfl

theorem nan_run (w : World) : ∃ x, (binOp .quo 24 (.float .f64 0) (.float .f64 0)).run Tryz.prog w = .ok (.float .f64 x) w.drew ∧ FloatKind.f64.format.order x x = none := by
  have hd : FloatKind.f64.format.div 0 0 = none := by decide +kernel
  refine ⟨(Question.nanBits .f64 0 0).cut (w.tape w.drawn (.nanBits .f64 0 0)), ?_, ?_⟩
  · simp [binOp, Op.floatArith, hd, Question.forced]
  · refine nan_order ?_
    obtain ⟨t, ht⟩ : ∃ t, w.tape w.drawn (.nanBits .f64 0 0) = t := ⟨_, rfl⟩
    rw [ht]
    show 9218868437227405312 < ((t % 2) * 2 ^ 63 + 0x7ff0000000000000 + 1 + (t / 2) % (2 ^ 52 - 1)) % 9223372036854775808
    have h2 : t % 2 = 0 ∨ t % 2 = 1 := by omega
    have hr : (t / 2) % (2 ^ 52 - 1) < 2 ^ 52 - 1 := Nat.mod_lt _ (by decide)
    generalize (t / 2) % (2 ^ 52 - 1) = r at hr ⊢
    rcases h2 with h | h <;> rw [h] <;> omega

theorem nan_any (w : World) :
    Calls Tryz.prog 6 #[] w fun e w' => ∃ x, (e = .returned (.float .f64 x) ∧ FloatKind.f64.format.order x x = none) ∧ w' = w.drew := by
  obtain ⟨x, hx, ho⟩ := nan_run w
  go_enter Tryz.func6, Tryz.ntmps6
  go_wp2
  go_ret
  exact ⟨x, ⟨rfl, ho⟩, rfl⟩

/-- A part of a cost: a whole one, or no number. -/
inductive Part : Nat → Int → Prop
  | whole {n : Int} (h0 : -1000000000 ≤ n) (h1 : n ≤ 1000000000) : Part (F n) n
  | none {x : Nat} (h : FloatKind.f64.format.order x x = none) : Part x 0

theorem whole_any {x : Nat} {n : Int} (h : Part x n) (w : World) :
    Calls Tryz.prog 11 #[.float .f64 x] w fun e w' => e = .returned (.int .i64 n) ∧ w' = w := by
  cases h with
  | whole h0 h1 => exact whole_F h0 h1 w
  | none h => exact whole_N h w

theorem Part.small {x : Nat} {n : Int} (h : Part x n) : -1000000000 ≤ n ∧ n ≤ 1000000000 := by
  cases h with
  | whole h0 h1 => exact ⟨h0, h1⟩
  | none h => exact ⟨by decide, by decide⟩

theorem sum_any {x y : Nat} {a b : Int} (hx : Part x a) (hy : Part y b) (w : World) :
    Calls Tryz.prog 5 #[.complex .f64 x y] w fun e w' => e = .returned (.int .i64 (a + b)) ∧ w' = w := by
  have sx := hx.small
  have sy := hy.small
  have hb : wrap64 (a + b) = a + b := by unfold wrap64; omega
  go_enter Tryz.func5, Tryz.ntmps5
  go_wp2_with (first
    | (go_at_call 11; (with_reducible refine (whole_any hx _).mono ?_); rintro e w' ⟨rfl, rfl⟩)
    | (go_at_call 11; (with_reducible refine (whole_any hy _).mono ?_); rintro e w' ⟨rfl, rfl⟩))
  go_ret
  exact ⟨rfl, rfl⟩
end Go.Proofs.YtpanelgdfhpoaaaGreatDoor
