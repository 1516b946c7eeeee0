/- Trees of eight branches, read and turned at a number: the kernel works them out quickly, for what hangs on the number alone is worked out once. No program is named here. -/
noncomputable section
namespace Go.CE

structure N8 (α : Type) where
  mk :: (a b c d e f g h : α)

/-- A tree of so many levels. -/
def NT (d : Nat) (α : Type) : Type := Nat.rec α (fun _ t => N8 t) d

/-- A function, wrapped: what is closed is worked out once. -/
structure Fn1 (α β : Type) where
  f : α → β

structure SetF (t α R : Type) where
  f : t → α → (t → R) → R

/-- One of eight, by a number. -/
def sel8 {β : Type} (n : Nat) (x0 x1 x2 x3 x4 x5 x6 x7 : β) : β :=
  Nat.casesOn n x0 fun n => Nat.casesOn n x1 fun n => Nat.casesOn n x2 fun n => Nat.casesOn n x3 fun n =>
  Nat.casesOn n x4 fun n => Nat.casesOn n x5 fun n => Nat.casesOn n x6 fun _ => x7

def getN {α : Type} (d : Nat) : Nat → Fn1 (NT d α) α :=
  Nat.rec (motive := fun d => Nat → Fn1 (NT d α) α) (fun _ => ⟨fun t => t⟩)
    (fun d ih i => sel8 (Nat.div i (8 ^ d)) (Fn1.rec (motive := fun _ => Fn1 (N8 (NT d α)) α) (fun g => ⟨fun (t : N8 (NT d α)) => g t.a⟩) (ih (Nat.mod i (8 ^ d))))
      (Fn1.rec (motive := fun _ => Fn1 (N8 (NT d α)) α) (fun g => ⟨fun (t : N8 (NT d α)) => g t.b⟩) (ih (Nat.mod i (8 ^ d))))
      (Fn1.rec (motive := fun _ => Fn1 (N8 (NT d α)) α) (fun g => ⟨fun (t : N8 (NT d α)) => g t.c⟩) (ih (Nat.mod i (8 ^ d))))
      (Fn1.rec (motive := fun _ => Fn1 (N8 (NT d α)) α) (fun g => ⟨fun (t : N8 (NT d α)) => g t.d⟩) (ih (Nat.mod i (8 ^ d))))
      (Fn1.rec (motive := fun _ => Fn1 (N8 (NT d α)) α) (fun g => ⟨fun (t : N8 (NT d α)) => g t.e⟩) (ih (Nat.mod i (8 ^ d))))
      (Fn1.rec (motive := fun _ => Fn1 (N8 (NT d α)) α) (fun g => ⟨fun (t : N8 (NT d α)) => g t.f⟩) (ih (Nat.mod i (8 ^ d))))
      (Fn1.rec (motive := fun _ => Fn1 (N8 (NT d α)) α) (fun g => ⟨fun (t : N8 (NT d α)) => g t.g⟩) (ih (Nat.mod i (8 ^ d))))
      (Fn1.rec (motive := fun _ => Fn1 (N8 (NT d α)) α) (fun g => ⟨fun (t : N8 (NT d α)) => g t.h⟩) (ih (Nat.mod i (8 ^ d))))) d

def setN {α R : Type} (d : Nat) : Nat → SetF (NT d α) α R :=
  Nat.rec (motive := fun d => Nat → SetF (NT d α) α R) (fun _ => ⟨fun _ x k => k x⟩)
    (fun d ih i => sel8 (Nat.div i (8 ^ d)) (SetF.rec (motive := fun _ => SetF (N8 (NT d α)) α R) (fun u => ⟨fun (t : N8 (NT d α)) x k => N8.rec (motive := fun _ => R) (fun a b c q e f g h => u a x (fun z => k (N8.mk z b c q e f g h))) t⟩) (ih (Nat.mod i (8 ^ d))))
      (SetF.rec (motive := fun _ => SetF (N8 (NT d α)) α R) (fun u => ⟨fun (t : N8 (NT d α)) x k => N8.rec (motive := fun _ => R) (fun a b c q e f g h => u b x (fun z => k (N8.mk a z c q e f g h))) t⟩) (ih (Nat.mod i (8 ^ d))))
      (SetF.rec (motive := fun _ => SetF (N8 (NT d α)) α R) (fun u => ⟨fun (t : N8 (NT d α)) x k => N8.rec (motive := fun _ => R) (fun a b c q e f g h => u c x (fun z => k (N8.mk a b z q e f g h))) t⟩) (ih (Nat.mod i (8 ^ d))))
      (SetF.rec (motive := fun _ => SetF (N8 (NT d α)) α R) (fun u => ⟨fun (t : N8 (NT d α)) x k => N8.rec (motive := fun _ => R) (fun a b c q e f g h => u q x (fun z => k (N8.mk a b c z e f g h))) t⟩) (ih (Nat.mod i (8 ^ d))))
      (SetF.rec (motive := fun _ => SetF (N8 (NT d α)) α R) (fun u => ⟨fun (t : N8 (NT d α)) x k => N8.rec (motive := fun _ => R) (fun a b c q e f g h => u e x (fun z => k (N8.mk a b c q z f g h))) t⟩) (ih (Nat.mod i (8 ^ d))))
      (SetF.rec (motive := fun _ => SetF (N8 (NT d α)) α R) (fun u => ⟨fun (t : N8 (NT d α)) x k => N8.rec (motive := fun _ => R) (fun a b c q e f g h => u f x (fun z => k (N8.mk a b c q e z g h))) t⟩) (ih (Nat.mod i (8 ^ d))))
      (SetF.rec (motive := fun _ => SetF (N8 (NT d α)) α R) (fun u => ⟨fun (t : N8 (NT d α)) x k => N8.rec (motive := fun _ => R) (fun a b c q e f g h => u g x (fun z => k (N8.mk a b c q e f z h))) t⟩) (ih (Nat.mod i (8 ^ d))))
      (SetF.rec (motive := fun _ => SetF (N8 (NT d α)) α R) (fun u => ⟨fun (t : N8 (NT d α)) x k => N8.rec (motive := fun _ => R) (fun a b c q e f g h => u h x (fun z => k (N8.mk a b c q e f g z))) t⟩) (ih (Nat.mod i (8 ^ d))))) d

/-- Every place holds x. -/
def fullN {α : Type} (x : α) (d : Nat) : NT d α :=
  Nat.rec (motive := fun d => NT d α) x (fun d t => (⟨t, t, t, t, t, t, t, t⟩ : N8 (NT d α))) d

/-- What a turned tree is, without the way of the kernel. -/
def updN {α : Type} (d i : Nat) (t : NT d α) (x : α) : NT d α := (setN (R := NT d α) d i).f t x id

def capN (d : Nat) : Nat := 8 ^ d

theorem sel8_eq {β : Type} (n : Nat) (x0 x1 x2 x3 x4 x5 x6 x7 : β) (h : n < 8) :
    sel8 n x0 x1 x2 x3 x4 x5 x6 x7 = if n = 0 then x0 else if n = 1 then x1 else if n = 2 then x2 else if n = 3 then x3 else if n = 4 then x4 else if n = 5 then x5 else if n = 6 then x6 else x7 := by
  match n, h with
  | 0, _ => rfl
  | 1, _ => rfl
  | 2, _ => rfl
  | 3, _ => rfl
  | 4, _ => rfl
  | 5, _ => rfl
  | 6, _ => rfl
  | 7, _ => rfl

theorem getN_zero {α : Type} (i : Nat) (t : NT 0 α) : (getN (α := α) 0 i).f t = t := rfl

def at8 {α : Type} (n : Nat) (t : N8 α) : α := sel8 n t.a t.b t.c t.d t.e t.f t.g t.h
def put8 {α : Type} (n : Nat) (t : N8 α) (z : α) : N8 α :=
  sel8 n { t with a := z }
    { t with b := z }
    { t with c := z }
    { t with d := z }
    { t with e := z }
    { t with f := z }
    { t with g := z }
    { t with h := z }
def atN {α : Type} (d n : Nat) (t : NT (d + 1) α) : NT d α := at8 (α := NT d α) n t
def putN {α : Type} (d n : Nat) (t : NT (d + 1) α) (z : NT d α) : NT (d + 1) α := put8 (α := NT d α) n t z

theorem at8_put8 {α : Type} (n m : Nat) (t : N8 α) (z : α) (hn : n < 8) (hm : m < 8) : at8 m (put8 n t z) = if m = n then z else at8 m t := by
  obtain ⟨a, b, c, d, e, f, g, h⟩ := t
  match n, hn with
  | 0, _ | 1, _ | 2, _ | 3, _ | 4, _ | 5, _ | 6, _ | 7, _ =>
    all_goals
      match m, hm with
      | 0, _ | 1, _ | 2, _ | 3, _ | 4, _ | 5, _ | 6, _ | 7, _ => all_goals rfl

theorem atN_putN {α : Type} (d n m : Nat) (t : NT (d + 1) α) (z : NT d α) (hn : n < 8) (hm : m < 8) : atN d m (putN d n t z) = if m = n then z else atN d m t :=
  at8_put8 (α := NT d α) n m t z hn hm

theorem getN_succ {α : Type} (d i : Nat) (t : NT (d + 1) α) (hi : i / 8 ^ d < 8) : (getN (α := α) (d + 1) i).f t = (getN d (i % 8 ^ d)).f (atN d (i / 8 ^ d) t) := by
  show (sel8 (i / 8 ^ d) _ _ _ _ _ _ _ _ : Fn1 (N8 (NT d α)) α).f t = _
  unfold atN at8
  generalize i / 8 ^ d = n at *
  match n, hi with
  | 0, _ => rfl
  | 1, _ => rfl
  | 2, _ => rfl
  | 3, _ => rfl
  | 4, _ => rfl
  | 5, _ => rfl
  | 6, _ => rfl
  | 7, _ => rfl

theorem sel8_big {β : Type} (n : Nat) (x0 x1 x2 x3 x4 x5 x6 x7 : β) : sel8 (n + 7) x0 x1 x2 x3 x4 x5 x6 x7 = x7 := rfl

theorem setN_succ {α R : Type} (d i : Nat) (t : NT (d + 1) α) (x : α) (k : NT (d + 1) α → R) :
    (setN (α := α) (R := R) (d + 1) i).f t x k = (setN d (i % 8 ^ d)).f (atN d (i / 8 ^ d) t) x (fun z => k (putN d (i / 8 ^ d) t z)) := by
  show (sel8 (i / 8 ^ d) _ _ _ _ _ _ _ _ : SetF (N8 (NT d α)) α R).f t x k = _
  unfold atN putN
  obtain ⟨a, b, c, dd, e, f, g, h⟩ : N8 (NT d α) := t
  unfold at8 put8
  generalize i / 8 ^ d = n at *
  match n with
  | 0 => rfl
  | 1 => rfl
  | 2 => rfl
  | 3 => rfl
  | 4 => rfl
  | 5 => rfl
  | 6 => rfl
  | n + 7 => rfl

theorem setN_eq {α R : Type} (d : Nat) : ∀ (i : Nat) (t : NT d α) (x : α) (k : NT d α → R), (setN d i).f t x k = k (updN d i t x) := by
  induction d generalizing R with
  | zero => intro i t x k; rfl
  | succ d ih =>
    intro i t x k
    refine (setN_succ d i t x k).trans ((ih _ _ _ _).trans ?_)
    refine congrArg k ?_
    refine Eq.trans ?_ (setN_succ d i t x id).symm
    exact (ih (R := NT (d + 1) α) _ _ _ _).symm

theorem updN_succ {α : Type} (d i : Nat) (t : NT (d + 1) α) (x : α) : updN (d + 1) i t x = putN d (i / 8 ^ d) t (updN d (i % 8 ^ d) (atN d (i / 8 ^ d) t) x) :=
  (setN_succ d i t x id).trans (setN_eq _ _ _ _ _)

theorem get_upd {α : Type} (d : Nat) : ∀ (i j : Nat) (t : NT d α) (x : α), i < capN d → j < capN d → (getN d j).f (updN d i t x) = if j = i then x else (getN d j).f t := by
  induction d with
  | zero =>
    intro i j t x hi hj
    simp only [capN, Nat.pow_zero, Nat.lt_one_iff] at hi hj
    subst hi; subst hj
    rfl
  | succ d ih =>
    intro i j t x hi hj
    simp only [capN, Nat.pow_succ] at hi hj
    have hp : 0 < 8 ^ d := Nat.pow_pos (by decide)
    have hi' : i % 8 ^ d < capN d := Nat.mod_lt _ hp
    have hj' : j % 8 ^ d < capN d := Nat.mod_lt _ hp
    have hi8 : i / 8 ^ d < 8 := Nat.div_lt_of_lt_mul hi
    have hj8 : j / 8 ^ d < 8 := Nat.div_lt_of_lt_mul hj
    rw [updN_succ, getN_succ _ _ _ hj8, atN_putN _ _ _ _ _ hi8 hj8, getN_succ d j t hj8]
    by_cases h1 : j / 8 ^ d = i / 8 ^ d
    · rw [if_pos h1, ih _ _ _ _ hi' hj', h1]
      by_cases h2 : j % 8 ^ d = i % 8 ^ d
      · have : j = i := by rw [← Nat.div_add_mod j (8 ^ d), ← Nat.div_add_mod i (8 ^ d), h1, h2]
        rw [if_pos h2, if_pos this]
      · have : j ≠ i := fun e => h2 (by rw [e])
        rw [if_neg h2, if_neg this]
    · have : j ≠ i := fun e => h1 (by rw [e])
      rw [if_neg h1, if_neg this]

theorem at8_full {α : Type} (n : Nat) (x : α) (hn : n < 8) : at8 n ⟨x, x, x, x, x, x, x, x⟩ = x := by
  match n, hn with
  | 0, _ | 1, _ | 2, _ | 3, _ | 4, _ | 5, _ | 6, _ | 7, _ => all_goals rfl

theorem get_full {α : Type} (x : α) (d : Nat) : ∀ i, i < capN d → (getN d i).f (fullN x d) = x := by
  induction d with
  | zero => intro i _; rfl
  | succ d ih =>
    intro i hi
    simp only [capN, Nat.pow_succ] at hi
    have hi8 : i / 8 ^ d < 8 := Nat.div_lt_of_lt_mul hi
    rw [getN_succ _ _ _ hi8]
    exact (congrArg (getN d (i % 8 ^ d)).f (at8_full _ (fullN x d) hi8)).trans (ih _ (Nat.mod_lt _ (Nat.pow_pos (by decide))))

/-! ### Numbers as numerals -/

/-- n, worked out to a numeral ahead of what is done with it. -/
def num {R : Type} (n : Nat) (k : Nat → R) : R := Nat.casesOn (motive := fun _ => R) (Nat.succ n) (k 0) k
theorem num_eq {R : Type} (n : Nat) (k : Nat → R) : num n k = k n := rfl

def inum {R : Type} (n : Int) (k : Int → R) : R := Int.casesOn (motive := fun _ => R) n (fun m => num m fun m => k (.ofNat m)) (fun m => num m fun m => k (.negSucc m))
theorem inum_eq {R : Type} (n : Int) (k : Int → R) : inum n k = k n := by cases n <;> rfl

/-- A test. -/
def iff {R : Type} (b : Bool) (x y : R) : R := Bool.rec (motive := fun _ => R) y x b
theorem iff_eq {R : Type} (b : Bool) (x y : R) : iff b x y = if b then x else y := by cases b <;> rfl
@[simp] theorem iff_true {R : Type} (x y : R) : iff true x y = x := rfl
@[simp] theorem iff_false {R : Type} (x y : R) : iff false x y = y := rfl

end Go.CE
