/- Calls that are told, sought by their functions first. -/
import Derived.Test.YtgffldphnbeddaaGreatDoorCeCB
noncomputable section
namespace Go.CE
open Go Go.RowKit

def inF (f : Nat) (l : List Nat) : Bool := List.rec (motive := fun _ => Bool) false (fun x _ ih => iff (Nat.beq f x) true ih) l
/-- Calls, with those of some functions told. -/
def lowF (P : Program) (fs : List Nat) (tbl : List Sum) (lf : Nat) (n : Nat) : Low :=
  Nat.rec (motive := fun _ => Low) ⟨fun _ _ _ => .fail [218], fun _ _ _ => .fail [219]⟩
    (fun _ ih => ⟨fun f args m => iff (inF f fs) (tryS tbl f args m (tagF f ((fnD P lf f).f ih args m))) (tagF f ((fnD P lf f).f ih args m)), fun id args m => look P id m (roundOb P lf ih id args)⟩) n

theorem lowF_ok {P : Program} (hden : DenOK P) (fs : List Nat) {tbl : List Sum} (ht : ∀ s ∈ tbl, SumOK P s) (lf : Nat) : ∀ n, LowOK P (lowF P fs tbl lf n)
  | 0 => ⟨fun _ _ _ _ _ h => (by cases h), fun _ _ _ _ _ h => (by cases h), fun _ _ _ _ _ h => (by cases h), fun _ _ _ _ _ h => (by cases h)⟩
  | n + 1 => by
    have ih := lowF_ok hden fs ht lf n
    have split : ∀ {f : Nat} {args : List AV} {m : M} {v : AV} {m' : M}, (lowF P fs tbl lf (n + 1)).call f args m = .ok v m' → (fnD P lf f).f (lowF P fs tbl lf n) args m = .ok v m' ∨
        ∃ s ∈ tbl, s.f = f ∧ s.args = args ∧ m.nx = s.nx ∧ (∀ x ∈ s.pre, x.2 = obj m.H x.1) ∧ applyS s m.H m.rm m.wm m.dfs = .ok v m' := fun {f args m v m'} h => by
      have h : iff (inF f fs) (tryM f args m.H m.nx m.rm m.wm m.dfs (tagF f ((fnD P lf f).f (lowF P fs tbl lf n) args m)) tbl) (tagF f ((fnD P lf f).f (lowF P fs tbl lf n) args m)) = .ok v m' := h
      cases hf : inF f fs with
      | false =>
        rw [hf] at h
        exact .inl (tagF_ok h)
      | true =>
        rw [hf] at h
        rcases tryM_ok h with h | h
        · exact .inl (tagF_ok h)
        · exact .inr h
    refine ⟨fun f args m v m' h => ?_, fun id args m v m' h => ?_, fun f args m v m' h hdfs B0 A ρ w vals hw hin hr hf hargs k => ?_,
      fun id args m v m' h hdfs B0 A ρ w vals s hw hin hr hf hargs hs => round_ok hden ih h hdfs hw hin hr hf hargs hs⟩
    · rcases split h with h | ⟨s, hs, _, _, hnx, _, h⟩
      · exact fn_mono hden ih h
      · obtain ⟨_, H', h1, rfl⟩ := applyS_ok (ht s hs).1 h
        exact applyS_mono (ht s hs).1 hnx h1
    · have h : look P id m (roundOb P lf (lowF P fs tbl lf n) id args) = .ok v m' := h
      obtain ⟨rm, hrm, _, h⟩ := look_ok h
      have := round_mono hden ih h
      exact (Mono.marks' m _ hrm).trans this
    · rcases split h with h | ⟨s, hs, rfl, rfl, hnx, hpre, h⟩
      · exact fn_ok hden ih h hdfs hw hin hr hf hargs k
      · obtain ⟨rfl, H', h1, rfl⟩ := applyS_ok (ht s hs).1 h
        refine (ht s hs).2 m H' hnx hdfs (fun x hx => (hpre x hx).symm) h1 B0 A ρ w vals hw (fun id hid => hin id ?_) hr (fun id h1 h2 => hf id (by rw [hnx]; exact h1) h2) hargs _ _ _ (Nat.min_le_right _ _) k
        rcases hid with h | h
        · exact .inl (Nat.le_trans (Nat.min_le_right _ _) h)
        · exact .inr (by rw [hnx]; exact h)

/-- A call that is told, out of others. -/
theorem SumOK.runF {P : Program} (hden : DenOK P) (fs : List Nat) {tbl : List Sum} (ht : ∀ s ∈ tbl, SumOK P s) {lf n : Nat} {s : Sum} (h : sumB P (lowF P fs tbl lf n) s = true) : SumOK P s := SumOK.of (lowF_ok hden fs ht lf n) h

end Go.CE
