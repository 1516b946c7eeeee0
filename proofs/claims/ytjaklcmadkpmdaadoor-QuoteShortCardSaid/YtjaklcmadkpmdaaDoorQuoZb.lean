/- What is written is read as it was: plain mathematics. -/
import Derived.Test.YtjaklcmadkpmdaaDoorQuoSb
import Derived.Test.YtjaklcmadkpmdaaDoorQuoF
section
namespace Go.Proofs.YtjaklcmadkpmdaaDoor
open Go Go.RowKit Go.Shelf

/-- What stands at the place. -/
def Rd.Has (r : Rd) (l : List UInt8) : Prop := ∃ rest, r.text.data.toList.drop r.at' = l ++ rest
/-- So many bytes on. -/
def Rd.on (r : Rd) (k : Nat) : Rd := { r with at' := r.at' + k }
theorem Rd.on_on (r : Rd) (j k : Nat) : (r.on j).on k = r.on (j + k) := by unfold Rd.on; simp [Nat.add_assoc]
theorem Rd.on_one (r : Rd) : r.on 1 = r.up := rfl
theorem Rd.Has.app {r : Rd} {l m : List UInt8} (h : r.Has (l ++ m)) : r.Has l := by
  obtain ⟨rest, h⟩ := h
  exact ⟨m ++ rest, by rw [h, List.append_assoc]⟩
theorem Rd.Has.on {r : Rd} {l m : List UInt8} (h : r.Has (l ++ m)) : (r.on l.length).Has m := by
  obtain ⟨rest, h⟩ := h
  refine ⟨rest, ?_⟩
  show r.text.data.toList.drop (r.at' + l.length) = _
  rw [← List.drop_drop, h, List.append_assoc, List.drop_left]
theorem Rd.Has.up {r : Rd} {c : UInt8} {m : List UInt8} (h : r.Has (c :: m)) : r.up.Has m := Rd.Has.on (l := [c]) h
theorem Rd.Has.cur {r : Rd} {c : UInt8} {l : List UInt8} (h : r.Has (c :: l)) : r.cur = some c := by
  obtain ⟨rest, h⟩ := h
  have h0 : (r.text.data.toList.drop r.at')[0]? = some c := by rw [h]; rfl
  rw [List.getElem?_drop] at h0
  unfold Rd.cur
  rw [← Array.getElem?_toList]
  exact h0
theorem Rd.Has.next {r : Rd} {c : UInt8} {l : List UInt8} (h : r.Has (c :: l)) (d : UInt8) : r.next d = (c == d) := by
  unfold Rd.next
  rw [h.cur]
  rfl
theorem Rd.Has.le {r : Rd} {c : UInt8} {l : List UInt8} (h : r.Has (c :: l)) : r.at' + l.length < r.text.size := by
  obtain ⟨rest, h⟩ := h
  have := congrArg List.length h
  rw [List.length_drop] at this
  simp only [List.length_append, List.length_cons, Array.length_toList] at this
  show r.at' + l.length < r.text.data.size
  omega

/-- A sign is of one of these shapes. -/
def shp (cls : Bool) (b : UInt8) : Bool := match sg cls b with
  | [x] => Nat.beq x.toNat b.toNat && (beginsB cls x && !(Nat.beq x.toNat 92))
  | [x, d] => Nat.beq x.toNat 92 && (!(Nat.beq d.toNat 120) && (match findP (behL cls) d.toNat with | some v => Nat.beq v b.toNat | none => false))
  | [x, y, h, l] => Nat.beq x.toNat 92 && (Nat.beq y.toNat 120 && (decide (0 ≤ hexZ h) && (decide (0 ≤ hexZ l) && decide (16 * hexZ h + hexZ l = (b.toNat : Int)))))
  | _ => false
/-- In a class no sign begins by a dash, by ^, by a bracket. -/
def hdB (b : UInt8) : Bool := match sg true b with
  | x :: _ => !(Nat.beq x.toNat 45) && (!(Nat.beq x.toNat 94) && !(Nat.beq x.toNat 93))
  | [] => false
theorem shp_lit : below (fun n => shp false (UInt8.ofNat n)) 256 = true := by kernel_rfl
theorem shp_cls : below (fun n => shp true (UInt8.ofNat n)) 256 = true := by kernel_rfl
theorem hdB_all : below (fun n => hdB (UInt8.ofNat n)) 256 = true := by kernel_rfl
theorem u8_of (b : UInt8) : UInt8.ofNat b.toNat = b := by simp
theorem shp_any (cls : Bool) (b : UInt8) : shp cls b = true := by
  have h := fun p (hp : below p 256 = true) => below_ok hp b.toNat (UInt8.toNat_lt b)
  cases cls
  · have := h _ shp_lit; rwa [u8_of] at this
  · have := h _ shp_cls; rwa [u8_of] at this
theorem hdB_any (b : UInt8) : ∃ x l, sg true b = x :: l ∧ x ≠ 45 ∧ x ≠ 94 ∧ x ≠ 93 := by
  have h := below_ok hdB_all b.toNat (UInt8.toNat_lt b)
  rw [u8_of] at h
  unfold hdB at h
  split at h
  · rename_i x l hx
    simp only [Bool.and_eq_true, Bool.not_eq_true'] at h
    refine ⟨x, l, hx, ?_, ?_, ?_⟩ <;> (rintro rfl; simp at h)
  · cases h
theorem nbeq {x : UInt8} {n : Nat} (h : Nat.beq x.toNat n = true) : x.toNat = n := Nat.eq_of_beq_eq_true h
theorem u8_eq {x : UInt8} {y : UInt8} (h : x.toNat = y.toNat) : x = y := UInt8.toNat_inj.1 h
theorem begins_back (cls : Bool) : beginsB cls 92 = true := by cases cls <;> rfl

theorem digit_back {r : Rd} (he : r.e = 0) {h : UInt8} {m : List UInt8} (hh : r.Has (h :: m)) (hz : 0 ≤ hexZ h) : r.digit = (hexZ h, r.up) := by
  unfold Rd.digit
  rw [if_neg (by simpa using he), hh.cur]
  dsimp only
  rw [if_pos hz]
  rfl
/-- A byte's own sign is read as that byte. -/
theorem sign_back (cls : Bool) (r : Rd) (he : r.e = 0) (b : UInt8) {m : List UInt8} (h : r.Has (sg cls b ++ m)) : r.sign cls = (b, r.on (sg cls b).length) ∧ r.begins cls = true := by
  have hs := shp_any cls b
  unfold shp at hs
  generalize sg cls b = l at hs h
  split at hs
  · rename_i x
    simp only [Bool.and_eq_true, Bool.not_eq_true'] at hs
    obtain ⟨h1, h2, h3⟩ := hs
    have hx : x = b := u8_eq (nbeq h1)
    have hc := Rd.Has.cur (l := m) h
    have h92 : x.toNat ≠ 92 := fun k => by rw [k] at h3; simp at h3
    refine ⟨?_, by unfold Rd.begins; rw [hc]; exact h2⟩
    unfold Rd.sign
    rw [hc]
    dsimp only
    rw [if_neg (by simp [h2]), if_pos h92, hx]
    rfl
  · rename_i x d
    simp only [Bool.and_eq_true, Bool.not_eq_true'] at hs
    obtain ⟨h1, h2, h3⟩ := hs
    have hx : x = 92 := u8_eq (nbeq h1)
    subst hx
    have hc := Rd.Has.cur (l := d :: m) h
    have hd : r.up.Has (d :: m) := Rd.Has.up (m := d :: m) h
    have hnx : r.up.next 120 = false := by
      rw [hd.next, beq_eq_false_iff_ne]
      rintro rfl
      simp at h2
    refine ⟨?_, by unfold Rd.begins; rw [hc]; exact begins_back cls⟩
    unfold Rd.sign
    rw [hc]
    dsimp only
    rw [if_neg (by simp [begins_back cls]), if_neg (by decide), if_neg (by simp [hnx]), hd.cur]
    dsimp only
    split at h3
    · rename_i v hv
      rw [hv]
      dsimp only
      rw [Nat.eq_of_beq_eq_true h3, u8_of]
      rfl
    · cases h3
  · rename_i x y h' l'
    simp only [Bool.and_eq_true, decide_eq_true_eq] at hs
    obtain ⟨h1, h2, h3, h4, h5⟩ := hs
    have hx : x = 92 := u8_eq (nbeq h1)
    have hy : y = 120 := u8_eq (nbeq h2)
    subst hx hy
    have hc := Rd.Has.cur (l := 120 :: h' :: l' :: m) h
    have hu : r.up.Has (120 :: h' :: l' :: m) := Rd.Has.up (m := 120 :: h' :: l' :: m) h
    have huu := hu.up
    have hnx : r.up.next 120 = true := by rw [hu.next]; rfl
    have e1 := digit_back (r := r.up.up) he huu h3
    have e2 := digit_back (r := r.up.up.up) he huu.up h4
    refine ⟨?_, by unfold Rd.begins; rw [hc]; exact begins_back cls⟩
    unfold Rd.sign
    rw [hc]
    dsimp only
    rw [if_neg (by simp [begins_back cls]), if_neg (by decide), if_pos hnx]
    unfold Rd.hex
    rw [e1]
    dsimp only
    rw [e2]
    dsimp only
    rw [h5, Int.toNat_natCast, u8_of]
    rfl
  · cases hs
theorem on_e (r : Rd) (k : Nat) : (r.on k).e = r.e := rfl

/-- Bytes' own signs, up to a byte that begins none. -/
theorem signs_back (cls : Bool) {q : UInt8} (hq : beginsB cls q = false) {m : List UInt8} : ∀ (l : List UInt8) (n : Nat) (r : Rd), r.e = 0 → r.Has (l.flatMap (sg cls) ++ q :: m) → l.length < n →
    r.signs cls n = (l, r.on (l.flatMap (sg cls)).length)
  | _, 0, _, _, _, hn => by omega
  | [], n + 1, r, he, h, _ => by
    have hb : r.begins cls = false := by
      unfold Rd.begins
      rw [Rd.Has.cur (l := m) h]
      exact hq
    rw [Rd.signs, if_neg (by rw [hb]; simp)]
    rfl
  | b :: l, n + 1, r, he, h, hn => by
    rw [List.flatMap_cons, List.append_assoc] at h
    obtain ⟨h1, h2⟩ := sign_back cls r he b h
    have ih := signs_back cls hq l n (r.on (sg cls b).length) he h.on (by simp at hn; omega)
    have he' : ¬ (r.on (sg cls b).length).e ≠ 0 := by rw [on_e]; simpa using he
    rw [Rd.signs, if_pos ⟨he, h2⟩, h1]
    dsimp only
    rw [if_neg he', ih, Rd.on_on, List.flatMap_cons, List.length_append]
theorem expect_back {r : Rd} (he : r.e = 0) {c : UInt8} {m : List UInt8} (h : r.Has (c :: m)) : r.expect c = r.up := by
  unfold Rd.expect
  rw [if_neg (by simpa using he), h.next, if_pos (beq_self_eq_true c)]
  rfl
theorem rd0_has {cls : Bool} {t : ByteArray} {mb : Nat} {l m : List UInt8} (h : t.data.toList = l ++ m) : (rd0 cls t mb).Has l := ⟨m, h⟩
theorem bytes_eq (s : ByteArray) : (⟨s.data.toList.toArray⟩ : ByteArray) = s := by cases s; simp

/-- A text's literal is read as that text. -/
theorem unl_back (s t : ByteArray) (mb : Nat) {m : List UInt8} (ht : t.data.toList = litL s ++ m) (hs : s.size ≤ 255) (n : Nat) (hn : t.size < n) : unl t mb n = (s, (litL s).length, 0) := by
  have hl : litL s = 34 :: (s.data.toList.flatMap (sg false) ++ [34]) := by
    unfold litL litP
    rw [List.take_of_length_le (by rw [Array.length_toList]; exact Nat.le_refl _)]
    simp
  have hsz : t.size = t.data.toList.length := by rw [Array.length_toList]; rfl
  rw [ht, hl] at hsz
  rw [hl] at ht
  have h0 : (rd0 false t mb).Has (34 :: (s.data.toList.flatMap (sg false) ++ 34 :: m)) := ⟨[], by show t.data.toList.drop 0 = _; rw [List.drop_zero, ht]; simp⟩
  have h1 := expect_back (r := rd0 false t mb) rfl h0
  have hsl : s.data.toList.length = s.size := by rw [Array.length_toList]; rfl
  have hle : s.data.toList.length ≤ (s.data.toList.flatMap (sg false)).length := by
    have : ∀ l : List UInt8, l.length ≤ (l.flatMap (sg false)).length := by
      intro l
      induction l with
      | nil => simp
      | cons b l ih =>
        have hb : 1 ≤ (sg false b).length := by
          have := shp_any false b
          unfold shp at this
          rcases hx : sg false b with _ | ⟨x, r⟩
          · rw [hx] at this; cases this
          · simp
        rw [List.flatMap_cons, List.length_append, List.length_cons]
        omega
    exact this _
  have hlen : t.size = 1 + (s.data.toList.flatMap (sg false)).length + 1 + m.length := by rw [hsz]; simp; omega
  have h2 := signs_back false (q := 34) (by decide) s.data.toList n (rd0 false t mb).up rfl h0.up (by omega)
  have h3 := Rd.lit_signs false 34 (by decide) n (rd0 false t mb).up rfl (by show 1 ≤ t.size; omega) (by show t.size < n + 1; omega)
  rw [h2] at h3
  dsimp only at h3
  have h4 := expect_back (r := (rd0 false t mb).up.on (s.data.toList.flatMap (sg false)).length) rfl h0.up.on
  rw [h4] at h3
  unfold unl
  dsimp only
  rw [h1, if_neg (by show ¬ (0 : Nat) ≠ 0; simp), h3.1, h3.2, if_neg (by show ¬ (0 : Nat) ≠ 0; simp), if_neg (by omega), bytes_eq]
  refine Prod.ext rfl (Prod.ext ?_ rfl)
  show 0 + 1 + (s.data.toList.flatMap (sg false)).length + 1 = (litL s).length
  rw [hl]
  simp
  omega

/-! ### Classes -/

/-- Which bytes some runs hold. -/
def inR (R : List (UInt8 × UInt8)) (n : Nat) : Bool := R.any fun p => decide (p.1.toNat ≤ n ∧ n ≤ p.2.toNat)
theorem has_rg (x y : UInt8) (n : Nat) (hn : n < 256) : (rg x y).has n = decide (x.toNat ≤ n ∧ n ≤ y.toNat) := by
  unfold rg
  rw [S4.has_ofL _ _ (by intro k hk; have := UInt8.toNat_lt y; rw [List.mem_range'_1] at hk; omega) n hn, S4.has_nil]
  rw [Bool.false_or, decide_eq_decide, List.mem_range'_1]
  omega
theorem ok_rg (x y : UInt8) : (rg x y).ok := S4.ok_ofL _ S4.ok_nil

/-- One sign alone. -/
theorem gone_one {r0 s : Rd} {S : S4} (h : GoneC r0 S s) (he : s.e = 0) (a : UInt8) {c : UInt8} {m : List UInt8} (hh : s.Has (sg true a ++ c :: m)) (hc : c ≠ 45) : GoneC r0 (S.or (rg a a)) (s.on (sg true a).length) := by
  obtain ⟨h1, h2⟩ := sign_back true s he a hh
  have hn : (s.on (sg true a).length).next 45 = false := by rw [hh.on.next, beq_eq_false_iff_ne]; exact hc
  have hp : 0 < (sg true a).length := by obtain ⟨x, l, e, _⟩ := hdB_any a; rw [e]; simp
  exact h.step he h2 (item_one h1 he hn) he (by show s.at' < s.at' + _; omega)
/-- A run. -/
theorem gone_run {r0 s : Rd} {S : S4} (hS : S.ok) (h : GoneC r0 S s) (he : s.e = 0) (p : UInt8 × UInt8) (hp : p.1.toNat ≤ p.2.toNat) {c : UInt8} {m : List UInt8} (hh : s.Has (runL p ++ c :: m)) (hc : c ≠ 45) :
    ∃ S', S'.ok ∧ GoneC r0 S' (s.on (runL p).length) ∧ ∀ n, n < 256 → S'.has n = (S.has n || decide (p.1.toNat ≤ n ∧ n ≤ p.2.toNat)) := by
  obtain ⟨a, b⟩ := p
  dsimp only at hp
  have ha := UInt8.toNat_lt a
  have hb := UInt8.toNat_lt b
  have hw : IntKind.u8.wrap ((b.toNat : Int) - (a.toNat : Int)) = (b.toNat : Int) - a.toNat := by rw [IntKind.wrap_u8]; exact Int.emod_eq_of_lt (by omega) (by omega)
  unfold runL far oth at hh ⊢
  dsimp only at hh ⊢
  rw [hw] at hh ⊢
  by_cases e0 : a = b
  · subst e0
    have d1 : decide (1 < (a.toNat : Int) - (a.toNat : Int)) = false := by rw [decide_eq_false_iff_not]; omega
    have d2 : ((a.toNat : Int) != (a.toNat : Int)) = false := by simp
    rw [d1, d2] at hh ⊢
    simp only [Bool.false_eq_true, if_false, List.append_nil] at hh ⊢
    exact ⟨_, S4.ok_or hS (ok_rg a a), gone_one h he a hh hc, fun n hn => by rw [S4.has_or, has_rg _ _ _ hn]⟩
  · have hne : a.toNat ≠ b.toNat := fun k => e0 (u8_eq k)
    have d2 : ((b.toNat : Int) != (a.toNat : Int)) = true := by rw [bne_iff_ne]; omega
    rw [d2] at hh ⊢
    simp only [if_true] at hh ⊢
    by_cases e1 : a.toNat + 1 = b.toNat
    · have d1 : decide (1 < (b.toNat : Int) - (a.toNat : Int)) = false := by rw [decide_eq_false_iff_not]; omega
      rw [d1] at hh ⊢
      simp only [Bool.false_eq_true, if_false, List.append_nil, List.append_assoc] at hh ⊢
      obtain ⟨x, l, ex, hx, _⟩ := hdB_any b
      have hh1 := hh
      rw [ex, List.cons_append] at hh1
      have g1 := gone_one h he a hh1 hx
      have g2 := gone_one g1 he b hh.on hc
      rw [Rd.on_on, ← List.length_append] at g2
      exact ⟨_, S4.ok_or (S4.ok_or hS (ok_rg a a)) (ok_rg b b), g2, fun n hn => by
        rw [S4.has_or, S4.has_or, has_rg _ _ _ hn, has_rg _ _ _ hn, Bool.or_assoc, ← Bool.decide_or]
        congr 1
        rw [decide_eq_decide]
        omega⟩
    · have d1 : decide (1 < (b.toNat : Int) - (a.toNat : Int)) = true := by rw [decide_eq_true_eq]; omega
      rw [d1] at hh ⊢
      simp only [if_true, List.append_assoc, List.cons_append, List.nil_append] at hh ⊢
      obtain ⟨h1, h2⟩ := sign_back true s he a hh
      have hn : (s.on (sg true a).length).next 45 = true := by rw [hh.on.next]; rfl
      obtain ⟨h3, h4⟩ := sign_back true (s.on (sg true a).length).up he b hh.on.up
      have hi := item_two h1 he hn h3
      rw [if_neg (by rintro ⟨_, k⟩; omega)] at hi
      have g := h.step he h2 hi he (by show s.at' < s.at' + (sg true a).length + 1 + (sg true b).length; omega)
      have e : ((s.on (sg true a).length).up).on (sg true b).length = s.on (sg true a ++ 45 :: sg true b).length := by
        rw [← Rd.on_one, Rd.on_on, Rd.on_on]
        congr 1
        simp
        omega
      rw [e] at g
      exact ⟨_, S4.ok_or hS (ok_rg a b), g, fun n hn => by rw [S4.has_or, has_rg _ _ _ hn]⟩
theorem runL_head (p : UInt8 × UInt8) (m : List UInt8) : ∃ x l, runL p ++ m = x :: l ∧ x ≠ 45 ∧ x ≠ 94 ∧ x ≠ 93 := by
  obtain ⟨x, l, e, h⟩ := hdB_any p.1
  exact ⟨x, l ++ (if far p then [45] else []) ++ (if oth p then sg true p.2 else []) ++ m, by unfold runL; rw [e]; simp, h⟩
theorem runs_head : ∀ (R : List (UInt8 × UInt8)) (m : List UInt8), ∃ x l, R.flatMap runL ++ 93 :: m = x :: l ∧ x ≠ 45 ∧ x ≠ 94
  | [], m => ⟨93, m, rfl, by decide, by decide⟩
  | p :: R, m => by
    obtain ⟨x, l, e, h1, h2, _⟩ := runL_head p (R.flatMap runL ++ 93 :: m)
    exact ⟨x, l, by rw [List.flatMap_cons, List.append_assoc, e], h1, h2⟩
theorem gone_runs {r0 : Rd} {m : List UInt8} : ∀ (R : List (UInt8 × UInt8)) (s : Rd) (S : S4), S.ok → GoneC r0 S s → s.e = 0 → (∀ p ∈ R, p.1.toNat ≤ p.2.toNat) → s.Has (R.flatMap runL ++ 93 :: m) →
    ∃ S', S'.ok ∧ GoneC r0 S' (s.on (R.flatMap runL).length) ∧ ∀ n, n < 256 → S'.has n = (S.has n || inR R n)
  | [], s, S, hS, hg, _, _, _ => ⟨S, hS, hg, fun n _ => by simp [inR]⟩
  | p :: R, s, S, hS, hg, he, hp, hh => by
    rw [List.flatMap_cons, List.append_assoc] at hh
    obtain ⟨x, l, e, hx, _⟩ := runs_head R m
    have hh1 := hh
    rw [e] at hh1
    obtain ⟨S1, o1, g1, k1⟩ := gone_run hS hg he p (hp p (List.mem_cons_self ..)) hh1 hx
    obtain ⟨S2, o2, g2, k2⟩ := gone_runs R _ S1 o1 g1 he (fun q hq => hp q (List.mem_cons_of_mem _ hq)) hh.on
    refine ⟨S2, o2, ?_, fun n hn => ?_⟩
    · rw [Rd.on_on] at g2
      rw [List.flatMap_cons, List.length_append]
      exact g2
    · rw [k2 n hn, k1 n hn, Bool.or_assoc]
      rfl

/-- What the runs of some bytes hold is these bytes. -/
theorem rs_cov (l : List UInt8) : (∀ p ∈ rs l, p.1.toNat ≤ p.2.toNat) ∧ ∀ n, inR (rs l) n = true ↔ ∃ b ∈ l, b.toNat = n := by
  have key : ∀ (l : List UInt8) (R : List (UInt8 × UInt8)) (k : List UInt8), ((∀ p ∈ R, p.1.toNat ≤ p.2.toNat) ∧ ∀ n, inR R n = true ↔ ∃ b ∈ k, b.toNat = n) →
      (∀ p ∈ l.foldl addRun R, p.1.toNat ≤ p.2.toNat) ∧ ∀ n, inR (l.foldl addRun R) n = true ↔ ∃ b ∈ k ++ l, b.toNat = n := by
    intro l
    induction l with
    | nil => intro R k h; simpa using h
    | cons b l ih =>
      intro R k h
      have e : k ++ b :: l = (k ++ [b]) ++ l := by simp
      rw [List.foldl_cons, e]
      refine ih (addRun R b) (k ++ [b]) ?_
      obtain ⟨h1, h2⟩ := h
      have ext : ∀ n, (∃ c ∈ k ++ [b], c.toNat = n) ↔ ((∃ c ∈ k, c.toNat = n) ∨ b.toNat = n) := by
        intro n
        constructor
        · rintro ⟨c, hc, ec⟩
          rcases List.mem_append.1 hc with hc | hc
          · exact .inl ⟨c, hc, ec⟩
          · rw [List.mem_singleton] at hc; subst hc; exact .inr ec
        · rintro (⟨c, hc, e⟩ | e)
          · exact ⟨c, List.mem_append_left _ hc, e⟩
          · exact ⟨b, by simp, e⟩
      rcases List.eq_nil_or_concat R with rfl | ⟨M, p, rfl⟩
      · rw [addRun_nil]
        refine ⟨by intro q hq; simp at hq; subst hq; exact Nat.le_refl _, fun n => ?_⟩
        rw [ext, ← h2 n]
        simp [inR]
        omega
      · rw [List.concat_eq_append] at h1 h2 ⊢
        by_cases hpb : p.2.toNat + 1 = b.toNat
        · rw [addRun_on _ _ _ hpb]
          have hp := h1 p (by simp)
          refine ⟨?_, fun n => ?_⟩
          · intro q hq
            rcases List.mem_append.1 hq with hq | hq
            · exact h1 q (List.mem_append_left _ hq)
            · simp at hq; subst hq; show p.1.toNat ≤ b.toNat; omega
          · rw [ext, ← h2 n]
            simp only [inR, List.any_append, List.any_cons, List.any_nil, Bool.or_false, Bool.or_eq_true, decide_eq_true_eq]
            constructor
            · rintro (h | h)
              · exact .inl (.inl h)
              · by_cases hn : n = b.toNat
                · exact .inr hn.symm
                · exact .inl (.inr (by omega))
            · rintro ((h | h) | h)
              · exact .inl h
              · exact .inr (by omega)
              · exact .inr (by omega)
        · rw [addRun_new _ _ _ hpb]
          refine ⟨?_, fun n => ?_⟩
          · intro q hq
            rcases List.mem_append.1 hq with hq | hq
            · exact h1 q hq
            · simp at hq; subst hq; exact Nat.le_refl _
          · rw [ext, ← h2 n]
            simp only [inR, List.any_append, List.any_cons, List.any_nil, Bool.or_false, Bool.or_eq_true, decide_eq_true_eq]
            constructor
            · rintro (h | h)
              · exact .inl h
              · exact .inr (by omega)
            · rintro (h | h)
              · exact .inl h
              · exact .inr (by omega)
  have := key l [] [] ⟨by simp, by simp [inR]⟩
  exact this
theorem inR_set (S : S4) (n : Nat) (hn : n < 256) : inR (rs (lstB S)) n = S.has n := by
  rw [Bool.eq_iff_iff, (rs_cov (lstB S)).2 n]
  unfold lstB
  constructor
  · rintro ⟨b, hb, e⟩
    obtain ⟨k, hk, rfl⟩ := List.mem_map.1 hb
    obtain ⟨h1, h2⟩ := S4.mem_lst.1 hk
    have : (UInt8.ofNat k).toNat = k := by simp; omega
    rw [this] at e
    rw [← e]; exact h2
  · intro h
    exact ⟨UInt8.ofNat n, List.mem_map.2 ⟨n, S4.mem_lst.2 ⟨hn, h⟩, rfl⟩, by simp; omega⟩

/-- A set's class is read as that set. -/
theorem uncl_back (S : S4) (hS : S.ok) (hE : same4 S S4.nil.not = false) (t : ByteArray) (mb : Nat) {m : List UInt8} (ht : t.data.toList = clsL S ++ m) (n : Nat) (hn : t.size < n) : uncl t mb n = (S, (clsL S).length, 0) := by
  have hl : clsL S = 91 :: ((rs (lstB S)).flatMap runL ++ [93]) := by
    unfold clsL clsP
    rw [hE]
    simp
  rw [hl] at ht
  have hsz : t.size = t.data.toList.length := by rw [Array.length_toList]; rfl
  rw [ht] at hsz
  have h0 : (rd0 true t mb).Has (91 :: ((rs (lstB S)).flatMap runL ++ 93 :: m)) := ⟨[], by show t.data.toList.drop 0 = _; rw [List.drop_zero, ht]; simp⟩
  have h1 := expect_back (r := rd0 true t mb) rfl h0
  obtain ⟨x, l, e, hx, hx2⟩ := runs_head (rs (lstB S)) m
  have hnx : (rd0 true t mb).up.next 94 = false := by
    have := h0.up
    rw [e] at this
    rw [this.next, beq_eq_false_iff_ne]
    exact hx2
  obtain ⟨S', o, g, k⟩ := gone_runs (rs (lstB S)) _ S4.nil S4.ok_nil (GoneC.start (rd0 true t mb).up) rfl (rs_cov _).1 h0.up
  have hSS : S' = S := S4.ext o hS fun n hn => by rw [k n hn, S4.has_nil, Bool.false_or, inR_set S n hn]
  subst hSS
  have hend := h0.up.on
  have hb : ((rd0 true t mb).up.on ((rs (lstB S')).flatMap runL).length).begins true = false := by
    unfold Rd.begins
    rw [hend.cur]
    rfl
  have hlen : t.size = 1 + ((rs (lstB S')).flatMap runL).length + 1 + m.length := by rw [hsz]; simp; omega
  have hf := g.fin (.inl ⟨by rw [hb]; simp, rfl⟩) n (by show 0 + 1 + _ < n; omega)
  unfold uncl
  dsimp only
  rw [h1, hnx]
  simp only [Bool.and_false, Bool.false_eq_true, if_false]
  rw [hf]
  dsimp only
  rw [expect_back (r := (rd0 true t mb).up.on _) rfl hend, if_neg (by show ¬ (0 : Nat) ≠ 0; simp)]
  refine Prod.ext rfl (Prod.ext ?_ rfl)
  show 0 + 1 + ((rs (lstB S')).flatMap runL).length + 1 = (clsL S').length
  rw [hl]
  simp
  omega
end Go.Proofs.YtjaklcmadkpmdaaDoor
end
section
namespace Go.Proofs.YtjaklcmadkpmdaaDoor
open Go Go.RowKit Go.Shelf

/-! ### A sign is not shorter than the byte's own -/
def plainLen (cls : Bool) (n : Nat) : Bool := !(beginsB cls (UInt8.ofNat n)) || (Nat.beq n 92 || Nat.beq (sg cls (UInt8.ofNat n)).length 1)
def escLen (cls : Bool) (n : Nat) : Bool := match findP (behL cls) n with | some v => Nat.ble (sg cls (UInt8.ofNat v)).length 2 | none => true
theorem plainLen_lit : below (plainLen false) 256 = true := by kernel_rfl
theorem plainLen_cls : below (plainLen true) 256 = true := by kernel_rfl
theorem escLen_lit : below (escLen false) 256 = true := by kernel_rfl
theorem escLen_cls : below (escLen true) 256 = true := by kernel_rfl
theorem plain_len (cls : Bool) (c : UInt8) (h : ¬ beginsB cls c = false) (h92 : c.toNat ≠ 92) : (sg cls c).length = 1 := by
  have key : plainLen cls c.toNat = true := by
    cases cls
    · exact below_ok plainLen_lit _ (UInt8.toNat_lt c)
    · exact below_ok plainLen_cls _ (UInt8.toNat_lt c)
  unfold plainLen at key
  rw [u8_of] at key
  have hb : beginsB cls c = true := by simpa using h
  rw [hb] at key
  simp only [Bool.not_true, Bool.false_or, Bool.or_eq_true] at key
  rcases key with k | k
  · exact absurd (Nat.eq_of_beq_eq_true k) h92
  · exact Nat.eq_of_beq_eq_true k
theorem esc_len (cls : Bool) (d : UInt8) {v : Nat} (h : findP (behL cls) d.toNat = some v) : (sg cls (UInt8.ofNat v)).length ≤ 2 := by
  have key : escLen cls d.toNat = true := by
    cases cls
    · exact below_ok escLen_lit _ (UInt8.toNat_lt d)
    · exact below_ok escLen_cls _ (UInt8.toNat_lt d)
  unfold escLen at key
  rw [h] at key
  exact Nat.le_of_ble_eq_true key
theorem digit_long {r : Rd} (h : r.digit.2.e = 0) : r.e = 0 ∧ r.digit.2.at' = r.at' + 1 := by
  unfold Rd.digit at h ⊢
  by_cases he : r.e ≠ 0
  · rw [if_pos he] at h
    exact absurd h he
  · rw [if_neg he] at h ⊢
    cases hc : r.cur with
    | none =>
      rw [hc] at h
      exact absurd h r.bad_e
    | some c =>
      rw [hc] at h
      dsimp only at h ⊢
      by_cases hz : 0 ≤ hexZ c
      · rw [if_pos hz]
        exact ⟨by simpa using he, rfl⟩
      · rw [if_neg hz] at h
        exact absurd h r.bad_e
theorem sign_long (cls : Bool) (r : Rd) (h : (r.sign cls).2.e = 0) : r.at' + (sg cls (r.sign cls).1).length ≤ (r.sign cls).2.at' := by
  unfold Rd.sign at h ⊢
  cases hc : r.cur with
  | none =>
    rw [hc] at h
    exact absurd h r.bad_e
  | some c =>
    rw [hc] at h
    dsimp only at h ⊢
    by_cases hb : beginsB cls c = false
    · rw [if_pos hb] at h
      exact absurd h r.bad_e
    · rw [if_neg hb] at h ⊢
      by_cases h92 : c.toNat ≠ 92
      · rw [if_pos h92]
        show r.at' + (sg cls c).length ≤ r.at' + 1
        rw [plain_len cls c hb h92]
        exact Nat.le_refl _
      · rw [if_neg h92] at h ⊢
        by_cases hx : r.up.next 120 = true
        · rw [if_pos hx] at h ⊢
          have h1 := digit_long (r := r.up.up.digit.2) h
          have h2 := digit_long h1.1
          have h3 := sg_len cls (UInt8.ofNat r.up.up.hex.1.toNat)
          show r.at' + (sg cls (UInt8.ofNat r.up.up.hex.1.toNat)).length ≤ r.up.up.digit.2.digit.2.at'
          rw [h1.2, h2.2]
          show _ ≤ r.at' + 1 + 1 + 1 + 1
          omega
        · rw [if_neg hx] at h ⊢
          cases hd : r.up.cur with
          | none =>
            rw [hd] at h
            exact absurd h r.up.bad_e
          | some d =>
            rw [hd] at h
            dsimp only at h ⊢
            cases hf : findP (behL cls) d.toNat with
            | none =>
              rw [hf] at h
              exact absurd h r.up.bad_e
            | some v =>
              dsimp only
              have := esc_len cls d hf
              show r.at' + (sg cls (UInt8.ofNat v)).length ≤ r.at' + 1 + 1
              omega
theorem signs_long (cls : Bool) : ∀ (n : Nat) (r : Rd), (r.signs cls n).2.e = 0 → r.at' + ((r.signs cls n).1.flatMap (sg cls)).length ≤ (r.signs cls n).2.at'
  | 0, r, _ => by simp [Rd.signs]
  | n + 1, r, h => by
    rw [Rd.signs] at h ⊢
    by_cases hc : r.e = 0 ∧ r.begins cls = true
    · rw [if_pos hc] at h ⊢
      by_cases he : (r.sign cls).2.e ≠ 0
      · rw [if_pos he] at h
        exact absurd h he
      · rw [if_neg he] at h ⊢
        dsimp only at h ⊢
        have h1 := sign_long cls r (by simpa using he)
        have h2 := signs_long cls n _ h
        rw [List.flatMap_cons, List.length_append]
        omega
    · rw [if_neg hc]
      simp
theorem litL_list (l : List UInt8) : (litL ⟨l.toArray⟩).length = 2 + (l.flatMap (sg false)).length := by
  unfold litL litP
  have e : (⟨l.toArray⟩ : ByteArray).size = l.length := by show l.toArray.size = _; simp
  rw [e]
  simp
  omega
/-- A literal that is read is not shorter than the text's own, and of 255 bytes at most. -/
theorem unl_long {t s : ByteArray} {mb n m : Nat} (h : unl t mb n = (s, m, 0)) (hn : t.size < n) : (litL s).length ≤ m ∧ s.size ≤ 255 := by
  unfold unl at h
  dsimp only at h
  by_cases he : ((rd0 false t mb).expect 34).e = 0
  · rw [if_neg (by simpa using he)] at h
    have hE : ((rd0 false t mb).expect 34) = (rd0 false t mb).up ∧ 0 < t.size := by
      unfold Rd.expect at he ⊢
      rw [if_neg (by show ¬ (0 : Nat) ≠ 0; simp)] at he ⊢
      by_cases hx : (rd0 false t mb).next 34 = true
      · rw [if_pos hx]
        exact ⟨rfl, next_lt hx⟩
      · rw [if_neg hx] at he
        exact absurd he (rd0 false t mb).bad_e
    rw [hE.1] at h he
    have hl := Rd.lit_signs false 34 (by decide) n (rd0 false t mb).up he hE.2 (by show t.size < n + 1; omega)
    rw [hl.1, hl.2] at h
    by_cases hf : ((((rd0 false t mb).up.signs false n).2).expect 34).e = 0
    · rw [if_neg (by simpa using hf)] at h
      by_cases h255 : 255 < ((rd0 false t mb).up.signs false n).1.length
      · rw [if_pos h255] at h
        simp at h
      · rw [if_neg h255] at h
        have hs : (⟨((rd0 false t mb).up.signs false n).1.toArray⟩ : ByteArray) = s := congrArg (fun p => p.1) h
        have hm : ((((rd0 false t mb).up.signs false n).2).expect 34).at' = m := congrArg (fun p => p.2.1) h
        have hg : (((rd0 false t mb).up.signs false n).2).e = 0 ∧ ((((rd0 false t mb).up.signs false n).2).expect 34).at' = (((rd0 false t mb).up.signs false n).2).at' + 1 := by
          unfold Rd.expect at hf ⊢
          by_cases h0 : (((rd0 false t mb).up.signs false n).2).e ≠ 0
          · rw [if_pos h0] at hf
            exact absurd hf h0
          · rw [if_neg h0] at hf ⊢
            by_cases hx : (((rd0 false t mb).up.signs false n).2).next 34 = true
            · rw [if_pos hx]
              exact ⟨by simpa using h0, rfl⟩
            · rw [if_neg hx] at hf
              exact absurd hf (Rd.bad_e _)
        have hlong := signs_long false n _ hg.1
        rw [← hs, litL_list, ← hm, hg.2]
        refine ⟨?_, ?_⟩
        · have : (rd0 false t mb).up.at' = 1 := rfl
          omega
        · show ((rd0 false t mb).up.signs false n).1.toArray.size ≤ 255
          simp
          omega
    · rw [if_pos hf] at h
      exact absurd (congrArg (fun p => p.2.2) h) hf
  · rw [if_pos he] at h
    exact absurd (congrArg (fun p => p.2.2) h) he

/-! ### Runs cost least -/
theorem sg_pos (b : UInt8) : 1 ≤ (sg true b).length := by obtain ⟨x, l, e, _⟩ := hdB_any b; rw [e]; simp
theorem runL_cost (p : UInt8 × UInt8) (hp : p.1.toNat ≤ p.2.toNat) : (runL p).length = (sg true p.1).length + (if p.1.toNat + 1 < p.2.toNat then 1 else 0) + (if p.1.toNat = p.2.toNat then 0 else (sg true p.2).length) := by
  obtain ⟨a, b⟩ := p
  dsimp only at hp ⊢
  have ha := UInt8.toNat_lt a
  have hb := UInt8.toNat_lt b
  have hw : IntKind.u8.wrap ((b.toNat : Int) - (a.toNat : Int)) = (b.toNat : Int) - a.toNat := by rw [IntKind.wrap_u8]; exact Int.emod_eq_of_lt (by omega) (by omega)
  unfold runL far oth
  dsimp only
  rw [hw, List.length_append, List.length_append]
  congr 1
  · congr 1
    by_cases h : a.toNat + 1 < b.toNat
    · rw [if_pos h, if_pos (by rw [decide_eq_true_eq]; omega)]
      rfl
    · rw [if_neg h, if_neg (by rw [decide_eq_true_eq]; omega)]
      rfl
  · by_cases h : a.toNat = b.toNat
    · rw [if_pos h, if_neg (by rw [bne_iff_ne]; omega)]
      rfl
    · rw [if_neg h, if_pos (by rw [bne_iff_ne]; omega)]
def costs (I : List (UInt8 × UInt8)) : Nat := (I.map fun i => (runL i).length).sum
theorem costs_cons (p : UInt8 × UInt8) (I : List (UInt8 × UInt8)) : costs (p :: I) = (runL p).length + costs I := by simp [costs]
theorem flat_costs : ∀ (R : List (UInt8 × UInt8)), (R.flatMap runL).length = costs R
  | [] => rfl
  | p :: R => by rw [List.flatMap_cons, List.length_append, costs_cons, flat_costs R]
theorem costs_pick : ∀ (I : List (UInt8 × UInt8)) (i : UInt8 × UInt8), i ∈ I → ∃ J, costs I = (runL i).length + costs J ∧ ∀ j ∈ I, j ≠ i → j ∈ J
  | [], i, h => by cases h
  | k :: I, i, h => by
    by_cases hik : i = k
    · subst hik
      refine ⟨I, costs_cons _ _, fun j hj hne => ?_⟩
      rcases List.mem_cons.1 hj with rfl | hj
      · exact absurd rfl hne
      · exact hj
    · have hi : i ∈ I := by
        rcases List.mem_cons.1 h with h | h
        · exact absurd h hik
        · exact h
      obtain ⟨J, h1, h2⟩ := costs_pick I i hi
      refine ⟨k :: J, by rw [costs_cons, costs_cons, h1]; omega, fun j hj hne => ?_⟩
      rcases List.mem_cons.1 hj with rfl | hj
      · exact List.mem_cons_self ..
      · exact List.mem_cons_of_mem _ (h2 j hj hne)
theorem costs_split (f : UInt8 × UInt8 → Bool) : ∀ (I : List (UInt8 × UInt8)), costs I = costs (I.filter f) + costs (I.filter fun i => !f i)
  | [] => rfl
  | k :: I => by
    have ih := costs_split f I
    cases h : f k
    · rw [List.filter_cons_of_neg (by simp [h]), List.filter_cons_of_pos (by simp [h]), costs_cons, costs_cons, ih]; omega
    · rw [List.filter_cons_of_pos (by simp [h]), List.filter_cons_of_neg (by simp [h]), costs_cons, costs_cons, ih]; omega
/-- Items within a run that cover it cost no less. -/
theorem cost_cover (I : List (UInt8 × UInt8)) (p : UInt8 × UInt8) (hp : p.1.toNat ≤ p.2.toNat) (hI : ∀ i ∈ I, i.1.toNat ≤ i.2.toNat) (hsub : ∀ i ∈ I, p.1.toNat ≤ i.1.toNat ∧ i.2.toNat ≤ p.2.toNat)
    (hcov : ∀ n, p.1.toNat ≤ n → n ≤ p.2.toNat → ∃ i ∈ I, i.1.toNat ≤ n ∧ n ≤ i.2.toNat) : (runL p).length ≤ costs I := by
  obtain ⟨u, hu, u1, u2⟩ := hcov _ (Nat.le_refl _) hp
  obtain ⟨v, hv, v1, v2⟩ := hcov _ hp (Nat.le_refl _)
  have su := hsub u hu
  have sv := hsub v hv
  have eu : u.1 = p.1 := u8_eq (by omega)
  have ev : v.2 = p.2 := u8_eq (by omega)
  obtain ⟨J, c1, k1⟩ := costs_pick I u hu
  have cu := runL_cost u (hI u hu)
  have cv := runL_cost v (hI v hv)
  have cp := runL_cost p hp
  rw [eu] at cu
  rw [ev] at cv
  have pu := sg_pos p.1
  have pv := sg_pos p.2
  have pu2 := sg_pos u.2
  have pv1 := sg_pos v.1
  by_cases huv : u.2 = p.2
  · have : u = p := Prod.ext eu huv
    rw [c1, this]
    omega
  · have hu2 : u.2.toNat ≠ p.2.toNat := fun k => huv (u8_eq k)
    have hne : v ≠ u := fun k => huv (by rw [← k]; exact ev)
    obtain ⟨J2, c2, k2⟩ := costs_pick J v (k1 v hv hne)
    have hpne : p.1.toNat ≠ p.2.toNat := by omega
    rw [if_neg hpne] at cp
    by_cases hfar : p.1.toNat + 1 < p.2.toNat
    · rw [if_pos hfar] at cp
      by_cases h1 : p.1.toNat = u.2.toNat
      · by_cases h2 : v.1.toNat = p.2.toNat
        · obtain ⟨x, hx, x1, x2⟩ := hcov (p.1.toNat + 1) (by omega) (by omega)
          have hxu : x ≠ u := by rintro rfl; omega
          have hxv : x ≠ v := by rintro rfl; omega
          obtain ⟨J3, c3, _⟩ := costs_pick J2 x (k2 x (k1 x hx hxu) hxv)
          have cx := runL_cost x (hI x hx)
          have px := sg_pos x.1
          rw [if_pos h1] at cu
          rw [if_pos h2] at cv
          have e1 : v.1 = p.2 := u8_eq h2
          rw [e1] at cv
          rw [c1, c2, c3]
          split at cu <;> split at cv <;> omega
        · rw [if_neg h2] at cv
          rw [c1, c2]
          split at cu <;> split at cv <;> omega
      · rw [if_neg h1] at cu
        rw [c1, c2]
        by_cases h2 : v.1.toNat = p.2.toNat
        · have e1 : v.1 = p.2 := u8_eq h2
          rw [e1] at cv
          split at cu <;> split at cv <;> omega
        · rw [if_neg h2] at cv
          split at cu <;> split at cv <;> omega
    · rw [if_neg hfar] at cp
      rw [c1, c2]
      by_cases h2 : v.1.toNat = p.2.toNat
      · have e1 : v.1 = p.2 := u8_eq h2
        rw [e1] at cv
        split at cu <;> split at cu <;> split at cv <;> omega
      · rw [if_neg h2] at cv
        split at cu <;> split at cu <;> split at cv <;> omega
/-- Greatest runs cost no more than whatever items make up the same. -/
theorem cost_runs : ∀ (R I : List (UInt8 × UInt8)), (∀ i ∈ I, i.1.toNat ≤ i.2.toNat) → (∀ p ∈ R, p.1.toNat ≤ p.2.toNat) → R.Pairwise (fun p q => p.2.toNat < q.1.toNat) →
    (∀ p ∈ R, ∀ i ∈ I, ∀ n, p.1.toNat ≤ n → n ≤ p.2.toNat → i.1.toNat ≤ n → n ≤ i.2.toNat → p.1.toNat ≤ i.1.toNat ∧ i.2.toNat ≤ p.2.toNat) →
    (∀ p ∈ R, ∀ n, p.1.toNat ≤ n → n ≤ p.2.toNat → ∃ i ∈ I, i.1.toNat ≤ n ∧ n ≤ i.2.toNat) → costs R ≤ costs I
  | [], _, _, _, _, _, _ => Nat.zero_le _
  | p :: R, I, hI, hR, hs, hm, hc => by
    obtain ⟨hs1, hs2⟩ := List.pairwise_cons.1 hs
    have hp := hR p (List.mem_cons_self ..)
    rw [costs_cons, costs_split (fun i => decide (p.1.toNat ≤ i.1.toNat ∧ i.2.toNat ≤ p.2.toNat)) I]
    refine Nat.add_le_add ?_ ?_
    · refine cost_cover _ p hp (fun i hi => hI i (List.mem_filter.1 hi).1) (fun i hi => of_decide_eq_true (List.mem_filter.1 hi).2) (fun n h1 h2 => ?_)
      obtain ⟨i, hi, i1, i2⟩ := hc p (List.mem_cons_self ..) n h1 h2
      exact ⟨i, List.mem_filter.2 ⟨hi, decide_eq_true (hm p (List.mem_cons_self ..) i hi n h1 h2 i1 i2)⟩, i1, i2⟩
    · refine cost_runs R _ (fun i hi => hI i (List.mem_filter.1 hi).1) (fun q hq => hR q (List.mem_cons_of_mem _ hq)) hs2 (fun q hq i hi => hm q (List.mem_cons_of_mem _ hq) i (List.mem_filter.1 hi).1) (fun q hq n h1 h2 => ?_)
      obtain ⟨i, hi, i1, i2⟩ := hc q (List.mem_cons_of_mem _ hq) n h1 h2
      refine ⟨i, List.mem_filter.2 ⟨hi, ?_⟩, i1, i2⟩
      rw [Bool.not_eq_true', decide_eq_false_iff_not]
      rintro ⟨k1, k2⟩
      have := hs1 q hq
      omega

/-- The greatest runs of rising bytes. -/
structure RunsOf (R : List (UInt8 × UInt8)) (l : List UInt8) : Prop where
  ord : ∀ p ∈ R, p.1.toNat ≤ p.2.toNat
  sub : ∀ p ∈ R, ∀ n, p.1.toNat ≤ n → n ≤ p.2.toNat → ∃ b ∈ l, b.toNat = n
  lo : ∀ p ∈ R, ∀ b ∈ l, b.toNat + 1 ≠ p.1.toNat
  hi : ∀ p ∈ R, ∀ b ∈ l, b.toNat ≠ p.2.toNat + 1
  sep : R.Pairwise fun p q => p.2.toNat < q.1.toNat
  top : ∀ b ∈ l, ∃ p, R.getLast? = some p ∧ b.toNat ≤ p.2.toNat
theorem RunsOf.snoc {R : List (UInt8 × UInt8)} {l : List UInt8} (h : RunsOf R l) (b : UInt8) (hb : ∀ c ∈ l, c.toNat < b.toNat) : RunsOf (addRun R b) (l ++ [b]) := by
  have mem : ∀ {c : UInt8}, c ∈ l ++ [b] → c ∈ l ∨ c = b := fun hc => by
    rcases List.mem_append.1 hc with hc | hc
    · exact .inl hc
    · exact .inr (List.mem_singleton.1 hc)
  rcases List.eq_nil_or_concat R with rfl | ⟨M, p, rfl⟩
  · have hl : l = [] := by
      rcases l with _ | ⟨c, l⟩
      · rfl
      · obtain ⟨p, hp, _⟩ := h.top c (List.mem_cons_self ..)
        cases hp
    subst hl
    rw [addRun_nil]
    refine ⟨?_, ?_, ?_, ?_, List.pairwise_singleton _ _, ?_⟩
    · intro q hq; rw [List.mem_singleton] at hq; subst hq; exact Nat.le_refl _
    · intro q hq n h1 h2; rw [List.mem_singleton] at hq; subst hq; exact ⟨b, by simp, by dsimp only at h1 h2; omega⟩
    · intro q hq c hc; rw [List.mem_singleton] at hq; subst hq; rcases mem hc with hc | rfl
      · cases hc
      · dsimp only; omega
    · intro q hq c hc; rw [List.mem_singleton] at hq; subst hq; rcases mem hc with hc | rfl
      · cases hc
      · dsimp only; omega
    · intro c hc; rcases mem hc with hc | rfl
      · cases hc
      · exact ⟨_, rfl, Nat.le_refl _⟩
  · rw [List.concat_eq_append] at h ⊢
    have hpm : p ∈ M ++ [p] := by simp
    have hpo := h.ord p hpm
    have htop : ∀ c ∈ l, c.toNat ≤ p.2.toNat := fun c hc => by
      obtain ⟨q, hq, hle⟩ := h.top c hc
      rw [List.getLast?_concat] at hq
      cases hq
      exact hle
    obtain ⟨c2, hc2, e2⟩ := h.sub p hpm p.2.toNat hpo (Nat.le_refl _)
    have hpb : p.2.toNat < b.toNat := by have := hb c2 hc2; omega
    obtain ⟨sM, _, sMp⟩ := List.pairwise_append.1 h.sep
    have hMp : ∀ q ∈ M, q.2.toNat < p.1.toNat := fun q hq => sMp q hq p (by simp)
    by_cases hj : p.2.toNat + 1 = b.toNat
    · rw [addRun_on _ _ _ hj]
      have mm : ∀ {q : UInt8 × UInt8}, q ∈ M ++ [(p.1, b)] → q ∈ M ∨ q = (p.1, b) := fun hq => by
        rcases List.mem_append.1 hq with hq | hq
        · exact .inl hq
        · exact .inr (List.mem_singleton.1 hq)
      refine ⟨?_, ?_, ?_, ?_, ?_, ?_⟩
      · intro q hq
        rcases mm hq with hq1 | rfl
        · exact h.ord q (List.mem_append_left _ hq1)
        · dsimp only; omega
      · intro q hq n h1 h2
        rcases mm hq with hq1 | rfl
        · obtain ⟨c, hc, e⟩ := h.sub q (List.mem_append_left _ hq1) n h1 h2
          exact ⟨c, List.mem_append_left _ hc, e⟩
        · dsimp only at h1 h2
          by_cases hn : n = b.toNat
          · exact ⟨b, by simp, hn.symm⟩
          · obtain ⟨c, hc, e⟩ := h.sub p hpm n h1 (by omega)
            exact ⟨c, List.mem_append_left _ hc, e⟩
      · intro q hq c hc
        have hq0 : q.1.toNat ≤ p.1.toNat := by
          rcases mm hq with hq1 | rfl
          · have := hMp q hq1
            have := h.ord q (List.mem_append_left _ hq1)
            omega
          · exact Nat.le_refl _
        rcases mem hc with hc | rfl
        · rcases mm hq with hq1 | rfl
          · exact h.lo q (List.mem_append_left _ hq1) c hc
          · exact h.lo p hpm c hc
        · omega
      · intro q hq c hc
        rcases mm hq with hq1 | rfl
        · rcases mem hc with hc | rfl
          · exact h.hi q (List.mem_append_left _ hq1) c hc
          · have := hMp q hq1
            omega
        · dsimp only
          rcases mem hc with hc | rfl
          · have := htop c hc
            omega
          · omega
      · refine List.pairwise_append.2 ⟨sM, List.pairwise_singleton _ _, fun q hq x hx => ?_⟩
        rw [List.mem_singleton] at hx
        subst hx
        exact hMp q hq
      · intro c hc
        refine ⟨(p.1, b), List.getLast?_concat .., ?_⟩
        dsimp only
        rcases mem hc with hc | rfl
        · have := htop c hc
          omega
        · exact Nat.le_refl _
    · rw [addRun_new _ _ _ hj]
      have mm : ∀ {q : UInt8 × UInt8}, q ∈ M ++ [p] ++ [(b, b)] → q ∈ M ++ [p] ∨ q = (b, b) := fun hq => by
        rcases List.mem_append.1 hq with hq | hq
        · exact .inl hq
        · exact .inr (List.mem_singleton.1 hq)
      have h2p : ∀ q ∈ M ++ [p], q.2.toNat ≤ p.2.toNat := fun q hq => by
        rcases List.mem_append.1 hq with hq | hq
        · have := hMp q hq
          omega
        · rw [List.mem_singleton] at hq; subst hq; exact Nat.le_refl _
      refine ⟨?_, ?_, ?_, ?_, ?_, ?_⟩
      · intro q hq
        rcases mm hq with hq1 | rfl
        · exact h.ord q hq1
        · exact Nat.le_refl _
      · intro q hq n h1 h2
        rcases mm hq with hq1 | rfl
        · obtain ⟨c, hc, e⟩ := h.sub q hq1 n h1 h2
          exact ⟨c, List.mem_append_left _ hc, e⟩
        · exact ⟨b, by simp, by dsimp only at h1 h2; omega⟩
      · intro q hq c hc
        rcases mm hq with hq1 | rfl
        · rcases mem hc with hc | rfl
          · exact h.lo q hq1 c hc
          · have := h2p q hq1
            have := h.ord q hq1
            omega
        · dsimp only
          rcases mem hc with hc | rfl
          · have := htop c hc
            omega
          · omega
      · intro q hq c hc
        rcases mm hq with hq1 | rfl
        · rcases mem hc with hc | rfl
          · exact h.hi q hq1 c hc
          · have := h2p q hq1
            omega
        · dsimp only
          rcases mem hc with hc | rfl
          · have := htop c hc
            omega
          · omega
      · refine List.pairwise_append.2 ⟨h.sep, List.pairwise_singleton _ _, fun q hq x hx => ?_⟩
        rw [List.mem_singleton] at hx
        subst hx
        have := h2p q hq
        dsimp only
        omega
      · intro c hc
        refine ⟨(b, b), List.getLast?_concat .., ?_⟩
        dsimp only
        rcases mem hc with hc | rfl
        · have := htop c hc
          omega
        · exact Nat.le_refl _
theorem runsOf_rs {l : List UInt8} (hl : l.Pairwise fun a b => a.toNat < b.toNat) : RunsOf (rs l) l := by
  have key : ∀ (m : List UInt8) (R : List (UInt8 × UInt8)) (k : List UInt8), RunsOf R k → (k ++ m).Pairwise (fun a b => a.toNat < b.toNat) → RunsOf (m.foldl addRun R) (k ++ m) := by
    intro m
    induction m with
    | nil => intro R k h _; simpa using h
    | cons b m ih =>
      intro R k h hp
      have e : k ++ b :: m = (k ++ [b]) ++ m := by simp
      rw [List.foldl_cons, e]
      rw [e] at hp
      refine ih _ _ (h.snoc b fun c hc => ?_) hp
      have h1 := (List.pairwise_append.1 hp).1
      exact (List.pairwise_append.1 h1).2.2 c hc b (by simp)
  exact key l [] [] ⟨by simp, by simp, by simp, by simp, List.Pairwise.nil, by simp⟩ hl
theorem lstB_rising (S : S4) : (lstB S).Pairwise fun a b => a.toNat < b.toNat := by
  unfold lstB
  rw [List.pairwise_map]
  have h : S.lst.Pairwise (· < ·) := List.Pairwise.filter _ List.pairwise_lt_range
  refine List.Pairwise.imp_of_mem (fun {a b} ha hb hlt => ?_) h
  have h1 := (S4.mem_lst.1 ha).1
  have h2 := (S4.mem_lst.1 hb).1
  have e1 : (UInt8.ofNat a).toNat = a := by simp; omega
  have e2 : (UInt8.ofNat b).toNat = b := by simp; omega
  rw [e1, e2]
  exact hlt
theorem mem_lstB {S : S4} {b : UInt8} (h : b ∈ lstB S) : S.has b.toNat = true := by
  unfold lstB at h
  obtain ⟨k, hk, rfl⟩ := List.mem_map.1 h
  obtain ⟨h1, h2⟩ := S4.mem_lst.1 hk
  have : (UInt8.ofNat k).toNat = k := by simp; omega
  rw [this]; exact h2
theorem lstB_mem {S : S4} {n : Nat} (hn : n < 256) (h : S.has n = true) : ∃ b ∈ lstB S, b.toNat = n := by
  unfold lstB
  exact ⟨UInt8.ofNat n, List.mem_map.2 ⟨n, S4.mem_lst.2 ⟨hn, h⟩, rfl⟩, by simp; omega⟩
/-- A set's runs cost no more than whatever items make it up. -/
theorem cost_set (S : S4) (I : List (UInt8 × UInt8)) (hI : ∀ i ∈ I, i.1.toNat ≤ i.2.toNat) (h : ∀ n, n < 256 → S.has n = inR I n) : costs (rs (lstB S)) ≤ costs I := by
  have hR := runsOf_rs (lstB_rising S)
  have inI : ∀ {i : UInt8 × UInt8} {n : Nat}, i ∈ I → i.1.toNat ≤ n → n ≤ i.2.toNat → ∃ b ∈ lstB S, b.toNat = n := fun {i n} hi h1 h2 => by
    have hn : n < 256 := by have := UInt8.toNat_lt i.2; omega
    refine lstB_mem hn ?_
    rw [h n hn]
    exact List.any_eq_true.2 ⟨i, hi, decide_eq_true ⟨h1, h2⟩⟩
  refine cost_runs _ I hI hR.ord hR.sep (fun p hp i hi n p1 p2 i1 i2 => ⟨?_, ?_⟩) (fun p hp n h1 h2 => ?_)
  · rcases Nat.lt_or_ge i.1.toNat p.1.toNat with hlt | hge
    · obtain ⟨b, hb, e⟩ := inI (n := p.1.toNat - 1) hi (by omega) (by omega)
      exact absurd (by omega) (hR.lo p hp b hb)
    · exact hge
  · rcases Nat.lt_or_ge p.2.toNat i.2.toNat with hlt | hge
    · obtain ⟨b, hb, e⟩ := inI (n := p.2.toNat + 1) hi (by omega) (by omega)
      exact absurd e (hR.hi p hp b hb)
    · exact hge
  · obtain ⟨b, hb, e⟩ := hR.sub p hp n h1 h2
    have hn : n < 256 := by have := UInt8.toNat_lt b; omega
    have hh := mem_lstB hb
    rw [e, h n hn] at hh
    obtain ⟨i, hi, hd⟩ := List.any_eq_true.1 hh
    exact ⟨i, hi, of_decide_eq_true hd⟩
end Go.Proofs.YtjaklcmadkpmdaaDoor
end
section
namespace Go.Proofs.YtjaklcmadkpmdaaDoor
open Go Go.RowKit Go.Shelf

/-- The same stands before both, the one k bytes further on. -/
structure Sim (k : Nat) (r s : Rd) : Prop where
  drop : r.text.data.toList.drop r.at' = s.text.data.toList.drop s.at'
  at_ : r.at' = s.at' + k
  e : r.e = s.e
theorem Sim.cur {k : Nat} {r s : Rd} (h : Sim k r s) : r.cur = s.cur := by
  have h0 := congrArg (fun l => l[0]?) h.drop
  simp only [List.getElem?_drop, Nat.add_zero] at h0
  unfold Rd.cur
  rw [← Array.getElem?_toList, ← Array.getElem?_toList]
  exact h0
theorem Sim.next {k : Nat} {r s : Rd} (h : Sim k r s) (c : UInt8) : r.next c = s.next c := by unfold Rd.next; rw [h.cur]
theorem Sim.begins {k : Nat} {r s : Rd} (h : Sim k r s) (cls : Bool) : r.begins cls = s.begins cls := by unfold Rd.begins; rw [h.cur]
theorem Sim.up {k : Nat} {r s : Rd} (h : Sim k r s) : Sim k r.up s.up :=
  ⟨by
    show r.text.data.toList.drop (r.at' + 1) = s.text.data.toList.drop (s.at' + 1)
    rw [← List.drop_drop, ← List.drop_drop, h.drop], by show r.at' + 1 = s.at' + 1 + k; have := h.at_; omega, h.e⟩
theorem bad_e_cur (r : Rd) : r.bad.e = if r.cur = none then 8 else 4 := by
  unfold Rd.bad
  dsimp only
  by_cases h : r.text.size ≤ r.at'
  · have : r.cur = none := by unfold Rd.cur; exact Array.getElem?_eq_none h
    rw [if_pos h, if_pos this]
  · have : r.cur ≠ none := fun hc => h (cur_none hc)
    rw [if_neg h, if_neg this]
theorem Sim.bad {k : Nat} {r s : Rd} (h : Sim k r s) : Sim k r.bad s.bad := ⟨h.drop, h.at_, by rw [bad_e_cur, bad_e_cur, h.cur]⟩
theorem Sim.digit {k : Nat} {r s : Rd} (h : Sim k r s) : r.digit.1 = s.digit.1 ∧ Sim k r.digit.2 s.digit.2 := by
  unfold Rd.digit
  rw [h.cur, h.e]
  by_cases he : s.e ≠ 0
  · rw [if_pos he, if_pos he]
    exact ⟨rfl, h⟩
  · rw [if_neg he, if_neg he]
    cases hc : s.cur with
    | none => exact ⟨rfl, h.bad⟩
    | some c =>
      dsimp only
      by_cases hz : 0 ≤ hexZ c
      · rw [if_pos hz, if_pos hz]
        exact ⟨rfl, ⟨h.up.drop, h.up.at_, rfl⟩⟩
      · rw [if_neg hz, if_neg hz]
        exact ⟨rfl, h.bad⟩
theorem Sim.sign {k : Nat} {r s : Rd} (h : Sim k r s) (cls : Bool) : (r.sign cls).1 = (s.sign cls).1 ∧ Sim k (r.sign cls).2 (s.sign cls).2 := by
  unfold Rd.sign
  rw [h.cur]
  cases hc : s.cur with
  | none => exact ⟨rfl, h.bad⟩
  | some c =>
    dsimp only
    by_cases hb : beginsB cls c = false
    · rw [if_pos hb, if_pos hb]
      exact ⟨rfl, h.bad⟩
    · rw [if_neg hb, if_neg hb]
      by_cases h92 : c.toNat ≠ 92
      · rw [if_pos h92, if_pos h92]
        exact ⟨rfl, h.up⟩
      · rw [if_neg h92, if_neg h92, h.up.next]
        by_cases hx : s.up.next 120 = true
        · rw [if_pos hx, if_pos hx]
          have d1 := h.up.up.digit
          have d2 := d1.2.digit
          unfold Rd.hex
          dsimp only
          rw [d1.1, d2.1]
          exact ⟨rfl, d2.2⟩
        · rw [if_neg hx, if_neg hx, h.up.cur]
          cases hd : s.up.cur with
          | none => exact ⟨rfl, h.up.bad⟩
          | some d =>
            dsimp only
            cases hf : findP (behL cls) d.toNat with
            | none => exact ⟨rfl, h.up.bad⟩
            | some v => exact ⟨rfl, h.up.up⟩
theorem Sim.expect {k : Nat} {r s : Rd} (h : Sim k r s) (c : UInt8) : Sim k (r.expect c) (s.expect c) := by
  unfold Rd.expect
  rw [h.e, h.next]
  by_cases he : s.e ≠ 0
  · rw [if_pos he, if_pos he]
    exact h
  · rw [if_neg he, if_neg he]
    by_cases hx : s.next c = true
    · rw [if_pos hx, if_pos hx]
      exact ⟨h.up.drop, h.up.at_, rfl⟩
    · rw [if_neg hx, if_neg hx]
      exact h.bad
/-- An item, in words of its two signs. -/
theorem item_eq (r : Rd) : r.item = if (r.sign true).2.e ≠ 0 then ((r.sign true).2, 0, 0)
    else if (r.sign true).2.next 45 = true then
      (if ((r.sign true).2.up.sign true).2.e = 0 ∧ ((r.sign true).2.up.sign true).1.toNat < (r.sign true).1.toNat then ({ ((r.sign true).2.up.sign true).2 with at' := r.at', e := 4 }, 0, 0) else (((r.sign true).2.up.sign true).2, (r.sign true).1, ((r.sign true).2.up.sign true).1))
    else ((r.sign true).2, (r.sign true).1, (r.sign true).1) := by
  unfold Rd.item
  by_cases he : (r.sign true).2.e ≠ 0
  · rw [if_pos he, if_pos he]
  · rw [if_neg he, if_neg he]
    by_cases hn : (r.sign true).2.next 45 = true
    · rw [if_pos hn, if_pos hn]
    · rw [if_neg hn, if_neg hn]
      dsimp only
      rw [if_neg (by rintro ⟨_, k⟩; omega)]
/-- Alike but for what stands before them, which is of no account where something is wrong. -/
structure SimE (k : Nat) (r s : Rd) : Prop where
  at_ : r.at' = s.at' + k
  e : r.e = s.e
theorem Sim.item {k : Nat} {r s : Rd} (h : Sim k r s) : r.item.2 = s.item.2 ∧ SimE k r.item.1 s.item.1 ∧ (s.item.1.e = 0 → Sim k r.item.1 s.item.1) := by
  have h1 := h.sign true
  have h2 := h1.2.up.sign true
  rw [item_eq, item_eq, h1.2.e, h1.2.next, h1.1]
  by_cases he : (s.sign true).2.e ≠ 0
  · rw [if_pos he, if_pos he]
    exact ⟨rfl, ⟨h1.2.at_, h1.2.e⟩, fun _ => h1.2⟩
  · rw [if_neg he, if_neg he]
    by_cases hn : (s.sign true).2.next 45 = true
    · rw [if_pos hn, if_pos hn, h2.1, h2.2.e]
      by_cases hc : ((s.sign true).2.up.sign true).2.e = 0 ∧ ((s.sign true).2.up.sign true).1.toNat < (s.sign true).1.toNat
      · rw [if_pos hc, if_pos hc]
        exact ⟨rfl, ⟨h.at_, rfl⟩, fun k => by dsimp only at k; cases k⟩
      · rw [if_neg hc, if_neg hc]
        exact ⟨rfl, ⟨h2.2.at_, h2.2.e⟩, fun _ => h2.2⟩
    · rw [if_neg hn, if_neg hn]
      exact ⟨rfl, ⟨h1.2.at_, h1.2.e⟩, fun _ => h1.2⟩
theorem Sim.items {k : Nat} : ∀ (n : Nat) {r s : Rd} (S : S4), Sim k r s → (r.items n S).1 = (s.items n S).1 ∧ SimE k (r.items n S).2 (s.items n S).2 ∧ ((s.items n S).2.e = 0 → Sim k (r.items n S).2 (s.items n S).2)
  | 0, r, s, S, h => ⟨rfl, ⟨h.at_, h.e⟩, fun _ => h⟩
  | n + 1, r, s, S, h => by
    obtain ⟨i1, i2, i3⟩ := h.item
    rw [Rd.items, Rd.items, h.e, h.begins]
    by_cases hc : s.e = 0 ∧ s.begins true = true
    · rw [if_pos hc, if_pos hc, i2.e, i1]
      by_cases he : s.item.1.e ≠ 0
      · rw [if_pos he, if_pos he]
        exact ⟨rfl, i2, fun k => absurd k he⟩
      · rw [if_neg he, if_neg he]
        exact Sim.items n _ (i3 (by simpa using he))
    · rw [if_neg hc, if_neg hc]
      exact ⟨rfl, ⟨h.at_, h.e⟩, fun _ => h⟩

/-! ### What items come to -/
theorem expect_ok {r : Rd} {c : UInt8} (h : (r.expect c).e = 0) : r.e = 0 ∧ r.next c = true ∧ r.expect c = r.up := by
  unfold Rd.expect at h ⊢
  by_cases h0 : r.e ≠ 0
  · rw [if_pos h0] at h
    exact absurd h h0
  · rw [if_neg h0] at h ⊢
    by_cases hx : r.next c = true
    · rw [if_pos hx]
      exact ⟨by simpa using h0, hx, rfl⟩
    · rw [if_neg hx] at h
      exact absurd h r.bad_e
theorem expect_like (r : Rd) (c : UInt8) : r.like (r.expect c) := by
  unfold Rd.expect
  split
  · exact Rd.like.refl r
  · split
    · exact ⟨rfl, rfl, rfl⟩
    · exact r.bad_like
theorem expect_le (r : Rd) (c : UInt8) (h : r.at' ≤ r.text.size) : (r.expect c).at' ≤ r.text.size := by
  unfold Rd.expect
  split
  · exact h
  · split
    · rename_i hx
      exact next_lt hx
    · exact h
theorem item_like (r : Rd) : r.like r.item.1 := by
  rw [item_eq]
  have h1 := r.sign_like true
  have h2 := (h1.trans (r.sign true).2.up_like).trans ((r.sign true).2.up.sign_like true)
  split
  · exact h1
  · split
    · split
      · exact h2
      · exact h2
    · exact h1
theorem item_le (r : Rd) (h : r.at' ≤ r.text.size) : r.item.1.at' ≤ r.text.size := by
  rw [item_eq]
  have h1 := r.sign_on true h
  split
  · exact h1.1
  · split
    · rename_i hn
      have h2 := next_lt hn
      have ht : (r.sign true).2.text = r.text := (r.sign_like true).1
      have h3 := (r.sign true).2.up.sign_on true h2
      split
      · exact h
      · show ((r.sign true).2.up.sign true).2.at' ≤ r.text.size
        have h4 := h3.1
        show _ ≤ r.text.size
        rw [show (r.sign true).2.up.text = r.text from ht] at h4
        exact h4
    · exact h1.1
theorem items_like : ∀ (n : Nat) (r : Rd) (S : S4), r.like (r.items n S).2
  | 0, r, _ => Rd.like.refl r
  | n + 1, r, S => by
    rw [Rd.items]
    split
    · split
      · exact item_like r
      · exact (item_like r).trans (items_like n _ _)
    · exact Rd.like.refl r
theorem items_le : ∀ (n : Nat) (r : Rd) (S : S4), r.at' ≤ r.text.size → (r.items n S).2.at' ≤ r.text.size
  | 0, r, _, h => h
  | n + 1, r, S, h => by
    rw [Rd.items]
    split
    · split
      · exact item_le r h
      · have h1 := item_le r h
        have ht := (item_like r).1
        have := items_le n r.item.1 (S.or (rg r.item.2.1 r.item.2.2)) (by rw [ht]; exact h1)
        rwa [ht] at this
    · exact h
/-- What an item costs. -/
theorem item_cost (r : Rd) (h : r.item.1.e = 0) : r.item.2.1.toNat ≤ r.item.2.2.toNat ∧ r.at' + (runL r.item.2).length ≤ r.item.1.at' := by
  rw [item_eq] at h ⊢
  by_cases he : (r.sign true).2.e ≠ 0
  · rw [if_pos he] at h
    exact absurd h he
  · rw [if_neg he] at h ⊢
    have s1 := sign_long true r (by simpa using he)
    by_cases hn : (r.sign true).2.next 45 = true
    · rw [if_pos hn] at h ⊢
      by_cases hc : ((r.sign true).2.up.sign true).2.e = 0 ∧ ((r.sign true).2.up.sign true).1.toNat < (r.sign true).1.toNat
      · rw [if_pos hc] at h
        cases h
      · rw [if_neg hc] at h ⊢
        dsimp only at h ⊢
        have hle : (r.sign true).1.toNat ≤ ((r.sign true).2.up.sign true).1.toNat := by
          rcases Nat.lt_or_ge ((r.sign true).2.up.sign true).1.toNat (r.sign true).1.toNat with k | k
          · exact absurd ⟨h, k⟩ hc
          · exact k
        have s2 := sign_long true (r.sign true).2.up h
        have cost := runL_cost ((r.sign true).1, ((r.sign true).2.up.sign true).1) hle
        dsimp only at cost
        refine ⟨hle, ?_⟩
        have : (r.sign true).2.up.at' = (r.sign true).2.at' + 1 := rfl
        split at cost <;> split at cost <;> omega
    · rw [if_neg hn]
      dsimp only
      have cost := runL_cost ((r.sign true).1, (r.sign true).1) (Nat.le_refl _)
      dsimp only at cost
      rw [if_neg (by omega), if_pos rfl] at cost
      exact ⟨Nat.le_refl _, by omega⟩
theorem items_cost : ∀ (n : Nat) (r : Rd) (S : S4), S.ok → (r.items n S).2.e = 0 → (r.items n S).1.ok ∧ ∃ I : List (UInt8 × UInt8), (∀ i ∈ I, i.1.toNat ≤ i.2.toNat) ∧ r.at' + costs I ≤ (r.items n S).2.at' ∧
    ∀ m, m < 256 → (r.items n S).1.has m = (S.has m || inR I m)
  | 0, r, S, hS, _ => ⟨hS, [], by simp, by simp [costs, Rd.items], fun m _ => by simp [inR, Rd.items]⟩
  | n + 1, r, S, hS, h => by
    rw [Rd.items] at h ⊢
    by_cases hc : r.e = 0 ∧ r.begins true = true
    · rw [if_pos hc] at h ⊢
      by_cases he : r.item.1.e ≠ 0
      · rw [if_pos he] at h
        exact absurd h he
      · rw [if_neg he] at h ⊢
        obtain ⟨c1, c2⟩ := item_cost r (by simpa using he)
        obtain ⟨o, I, i1, i2, i3⟩ := items_cost n r.item.1 _ (S4.ok_or hS (ok_rg r.item.2.1 r.item.2.2)) h
        refine ⟨o, r.item.2 :: I, ?_, ?_, fun m hm => ?_⟩
        · intro i hi
          rcases List.mem_cons.1 hi with rfl | hi
          · exact c1
          · exact i1 i hi
        · rw [costs_cons]
          omega
        · rw [i3 m hm, S4.has_or, has_rg _ _ _ hm, Bool.or_assoc]
          rfl
    · rw [if_neg hc]
      exact ⟨hS, [], by simp, by simp [costs], fun m _ => by simp [inR]⟩

/-- What stands in the class that begins a text, where it is one. -/
structure IsCls (t : ByteArray) (x : S4) (m : Nat) (S : S4) (other : Bool) : Prop where
  two : 2 ≤ m
  le : m ≤ t.size
  first : ∀ h : 0 < t.size, t[0] = 91
  last : ∀ h : m - 1 < t.size, t[m - 1] = 93
  second : ∀ h : 1 < t.size, (t[1] = 94) ↔ other = true
  ok : S.ok
  set : x = if other then S.not else S
  short : other = false → (clsL S).length ≤ m
theorem next_at {r : Rd} {c : UInt8} (h : r.next c = true) : ∃ hlt : r.at' < r.text.size, r.text[r.at'] = c := by
  unfold Rd.next at h
  rw [beq_iff_eq] at h
  exact cur_some h
theorem next_no {r : Rd} {c : UInt8} (h : r.next c = false) (hlt : r.at' < r.text.size) : r.text[r.at'] ≠ c := by
  unfold Rd.next at h
  rw [beq_eq_false_iff_ne] at h
  intro k
  apply h
  unfold Rd.cur
  rw [Array.getElem?_eq_getElem hlt]
  exact congrArg some k
theorem clsL_len (S : S4) : (clsL S).length ≤ costs (rs (lstB S)) + 2 := by
  unfold clsL
  split
  · simp
  · unfold clsP
    rw [List.take_length, ← flat_costs]
    simp
/-- What a text's class comes to, where it is one: the parts. -/
theorem uncl_parts {t : ByteArray} {mb n m : Nat} {x : S4} (h : uncl t mb n = (x, m, 0)) :
    ∃ (other : Bool) (S : S4) (f : Rd), (rd0 true t mb).next 91 = true ∧ (rd0 true t mb).up.next 94 = other ∧ (if other then (rd0 true t mb).up.up else (rd0 true t mb).up).items n S4.nil = (S, f) ∧ f.e = 0 ∧ f.next 93 = true ∧ m = f.at' + 1 ∧ x = if other then S.not else S := by
  unfold uncl at h
  dsimp only at h
  by_cases hr : ((rd0 true t mb).expect 91).e = 0
  · obtain ⟨_, e2, e3⟩ := expect_ok hr
    rw [e3] at h
    have he : decide ((rd0 true t mb).up.e = 0) = true := rfl
    rw [he, Bool.true_and] at h
    generalize hp : (if (rd0 true t mb).up.next 94 = true then (rd0 true t mb).up.up else (rd0 true t mb).up).items n S4.nil = p at h
    obtain ⟨S, f⟩ := p
    dsimp only at h
    by_cases hf : (f.expect 93).e = 0
    · obtain ⟨f1, f2, f3⟩ := expect_ok hf
      rw [if_neg (by simpa using hf), f3] at h
      exact ⟨_, S, f, e2, rfl, hp, f1, f2, (congrArg (fun q => q.2.1) h).symm, (congrArg (fun q => q.1) h).symm⟩
    · rw [if_pos hf] at h
      exact absurd (congrArg (fun q => q.2.2) h) hf
  · generalize hp : (if (decide (((rd0 true t mb).expect 91).e = 0) && ((rd0 true t mb).expect 91).next 94) = true then ((rd0 true t mb).expect 91).up else (rd0 true t mb).expect 91).items n S4.nil = p at h
    rw [decide_eq_false hr, Bool.false_and, if_neg (by simp)] at hp
    have hp2 : ((rd0 true t mb).expect 91).items n S4.nil = (S4.nil, (rd0 true t mb).expect 91) := by
      cases n with
      | zero => rfl
      | succ n => rw [Rd.items, if_neg (by rintro ⟨k, _⟩; exact hr k)]
    rw [hp2] at hp
    subst hp
    dsimp only at h
    have : ((rd0 true t mb).expect 91).expect 93 = (rd0 true t mb).expect 91 := by rw [Rd.expect, if_pos hr]
    rw [this, if_pos hr] at h
    exact absurd (congrArg (fun q => q.2.2) h) hr
theorem uncl_is {t : ByteArray} {mb n m : Nat} {x : S4} (h : uncl t mb n = (x, m, 0)) : ∃ S other, IsCls t x m S other := by
  obtain ⟨other, S, f, h1, h2, h3, h4, h5, rfl, h7⟩ := uncl_parts h
  obtain ⟨l0, v0⟩ := next_at h1
  have l0 : 0 < t.size := l0
  have v0 : t[0] = 91 := v0
  have hup : (if other then (rd0 true t mb).up.up else (rd0 true t mb).up).at' ≤ t.size ∧ (if other then (rd0 true t mb).up.up else (rd0 true t mb).up).text = t ∧ 1 ≤ (if other then (rd0 true t mb).up.up else (rd0 true t mb).up).at' := by
    cases other
    · exact ⟨l0, rfl, Nat.le_refl _⟩
    · exact ⟨next_lt h2, rfl, by show 1 ≤ 2; omega⟩
  have hle := items_le n _ S4.nil (by rw [hup.2.1]; exact hup.1)
  have hlk := (items_like n (if other then (rd0 true t mb).up.up else (rd0 true t mb).up) S4.nil).1
  obtain ⟨ho, I, i1, i2, i3⟩ := items_cost n (if other then (rd0 true t mb).up.up else (rd0 true t mb).up) S4.nil S4.ok_nil (by rw [h3]; exact h4)
  rw [h3] at hle hlk ho i2 i3
  dsimp only at hle hlk ho i2 i3
  rw [hup.2.1] at hle hlk
  obtain ⟨l9, v9⟩ := next_at h5
  have l9' : f.at' < t.size := by rw [← hlk]; exact l9
  refine ⟨S, other, by omega, l9', fun _ => v0, fun hl => ?_, fun hl => ?_, ho, h7, fun hoth => ?_⟩
  · have e : f.at' + 1 - 1 = f.at' := by omega
    simp only [e]
    simpa only [hlk] using v9
  · cases other
    · simp only [Bool.false_eq_true, iff_false]
      exact next_no h2 hl
    · obtain ⟨_, v⟩ := next_at h2
      simp only [iff_true]
      exact v
  · subst hoth
    have hc := cost_set S I i1 (fun k hk => by rw [i3 k hk, S4.has_nil, Bool.false_or])
    have := clsL_len S
    have i2' : 1 + costs I ≤ f.at' := i2
    omega
/-- What is wrong, where a text begins by no class. -/
theorem uncl_not {t : ByteArray} {mb n m e : Nat} {x : S4} (h : uncl t mb n = (x, m, e)) (he : e ≠ 0) : x = S4.nil ∧ m ≤ t.size := by
  unfold uncl at h
  dsimp only at h
  generalize hq : (if (decide (((rd0 true t mb).expect 91).e = 0) && ((rd0 true t mb).expect 91).next 94) = true then ((rd0 true t mb).expect 91).up else (rd0 true t mb).expect 91) = q at h
  have h0 := expect_le (rd0 true t mb) 91 (Nat.zero_le _)
  have t0 : ((rd0 true t mb).expect 91).text = t := (expect_like (rd0 true t mb) 91).1
  have h0 : ((rd0 true t mb).expect 91).at' ≤ t.size := h0
  have hq1 : q.at' ≤ t.size ∧ q.text = t := by
    rw [← hq]
    split
    · rename_i hx
      rw [Bool.and_eq_true] at hx
      have := next_lt hx.2
      rw [t0] at this
      exact ⟨this, t0⟩
    · exact ⟨h0, t0⟩
  have h1 := items_le n q S4.nil (by rw [hq1.2]; exact hq1.1)
  have t1 := (items_like n q S4.nil).1
  generalize q.items n S4.nil = p at h h1 t1
  have t2 : p.2.text = t := t1.trans hq1.2
  have h2 := expect_le p.2 93 (by rw [t1]; exact h1)
  rw [t2] at h2
  by_cases hf : (p.2.expect 93).e ≠ 0
  · rw [if_pos hf] at h
    have hx : S4.nil = x := congrArg (fun q => q.1) h
    have hm : (p.2.expect 93).at' = m := congrArg (fun q => q.2.1) h
    exact ⟨hx.symm, by rw [← hm]; exact h2⟩
  · rw [if_neg hf] at h
    exact absurd (congrArg (fun q => q.2.2) h).symm he
theorem not_not {S : S4} (h : S.ok) : S.not.not = S := S4.ext (S4.ok_not (S4.ok_not h)) h fun n _ => by rw [S4.has_not (S4.ok_not h), S4.has_not h, Bool.not_not]
/-- With a ^ behind the bracket, or without the one that is there, it is read as what the set has not. -/
theorem uncl_flip {t u : ByteArray} {mb mb' n n' m : Nat} {x : S4} (h : uncl t mb n = (x, m, 0)) (hn : t.size < n) (hn' : n = n') 
    (hu : (∃ l, t.data.toList = 91 :: 94 :: l ∧ u.data.toList = 91 :: l) ∨ (∃ c l, c ≠ 94 ∧ t.data.toList = 91 :: c :: l ∧ u.data.toList = 91 :: 94 :: c :: l)) :
    ∃ k, uncl u mb' n' = (x.not, k, 0) ∧ (k : Int) - m = (u.size : Int) - t.size := by
  obtain ⟨other, S, f, h1, h2, h3, h4, h5, rfl, h7⟩ := uncl_parts h
  subst hn'
  have tl : t.size = t.data.toList.length := by rw [Array.length_toList]; rfl
  have ul : u.size = u.data.toList.length := by rw [Array.length_toList]; rfl
  rcases hu with ⟨l, e1, e2⟩ | ⟨c, l, hc, e1, e2⟩
  · -- the ^ goes
    have ht : (rd0 true t mb).Has (91 :: 94 :: l) := ⟨[], by show t.data.toList.drop 0 = _; rw [List.drop_zero, e1]; simp⟩
    have ho : other = true := by rw [← h2, ht.up.next]; rfl
    subst ho
    have hS : Sim 1 (rd0 true t mb).up.up (rd0 true u mb').up := ⟨by show t.data.toList.drop 2 = u.data.toList.drop 1; rw [e1, e2]; rfl, rfl, rfl⟩
    have hr : (rd0 true t mb).up.up.items n S4.nil = (S, f) := h3
    obtain ⟨k1, k2, k3⟩ := hS.items n S4.nil
    rw [hr] at k1 k2 k3
    dsimp only at k1 k2 k3
    have hg : ((rd0 true u mb').up.items n S4.nil).2.e = 0 := by rw [← k2.e]; exact h4
    have k3 := k3 hg
    have h5' : ((rd0 true u mb').up.items n S4.nil).2.next 93 = true := by rw [← k3.next]; exact h5
    have hgx : (((rd0 true u mb').up.items n S4.nil).2).expect 93 = (((rd0 true u mb').up.items n S4.nil).2).up := by
      unfold Rd.expect
      rw [if_neg (by simpa using hg), if_pos h5']
      rfl
    have hu0 : (rd0 true u mb').Has (91 :: l) := ⟨[], by show u.data.toList.drop 0 = _; rw [List.drop_zero, e2]; simp⟩
    have hx1 := expect_back (r := rd0 true u mb') rfl hu0
    have hnx : (rd0 true u mb').up.next 94 = false := by
      have hs2 : (rd0 true t mb).up.up.next 94 = (rd0 true u mb').up.next 94 := hS.next 94
      rw [← hs2]
      cases hq : (rd0 true t mb).up.up.next 94 with
      | false => rfl
      | true =>
        -- a second ^ begins no sign, and is no bracket
        exfalso
        obtain ⟨_, hv⟩ := next_at hq
        have hcur : (rd0 true t mb).up.up.cur = some 94 := by
          unfold Rd.next at hq
          rw [beq_iff_eq] at hq
          exact hq
        have hb : (rd0 true t mb).up.up.begins true = false := by
          unfold Rd.begins
          rw [hcur]
          rfl
        have hit : (rd0 true t mb).up.up.items n S4.nil = (S4.nil, (rd0 true t mb).up.up) := by
          cases n with
          | zero => rfl
          | succ n => rw [Rd.items, if_neg (by rw [hb]; simp)]
        rw [hit] at hr
        obtain ⟨_, rfl⟩ := Prod.mk.inj hr
        unfold Rd.next at h5
        rw [hcur] at h5
        exact absurd h5 (by decide)
    have hok : S.ok := by
      have := (items_cost n (rd0 true t mb).up.up S4.nil S4.ok_nil (by rw [hr]; exact h4)).1
      rwa [hr] at this
    refine ⟨(((rd0 true u mb').up.items n S4.nil).2).at' + 1, ?_, ?_⟩
    · unfold uncl
      dsimp only
      rw [hx1, hnx]
      simp only [Bool.and_false, Bool.false_eq_true, if_false]
      rw [hgx, if_neg (by show ¬ (((rd0 true u mb').up.items n S4.nil).2).e ≠ 0; simpa using hg), ← k1, h7]
      simp only [if_true]
      rw [not_not hok]
      rfl
    · have := k2.at_
      rw [tl, ul, e1, e2]
      simp only [List.length_cons]
      omega
  · -- a ^ comes
    have ht : (rd0 true t mb).Has (91 :: c :: l) := ⟨[], by show t.data.toList.drop 0 = _; rw [List.drop_zero, e1]; simp⟩
    have ho : other = false := by rw [← h2, ht.up.next, beq_eq_false_iff_ne]; exact hc
    subst ho
    have hS : Sim 1 (rd0 true u mb').up.up (rd0 true t mb).up := ⟨by show u.data.toList.drop 2 = t.data.toList.drop 1; rw [e1, e2]; rfl, rfl, rfl⟩
    have hr : (rd0 true t mb).up.items n S4.nil = (S, f) := h3
    obtain ⟨k1, k2, k3⟩ := hS.items n S4.nil
    rw [hr] at k1 k2 k3
    dsimp only at k1 k2 k3
    have k3 := k3 h4
    have hg : ((rd0 true u mb').up.up.items n S4.nil).2.e = 0 := by rw [k2.e]; exact h4
    have h5' : ((rd0 true u mb').up.up.items n S4.nil).2.next 93 = true := by rw [k3.next]; exact h5
    have hgx : (((rd0 true u mb').up.up.items n S4.nil).2).expect 93 = (((rd0 true u mb').up.up.items n S4.nil).2).up := by
      unfold Rd.expect
      rw [if_neg (by simpa using hg), if_pos h5']
      rfl
    have hu0 : (rd0 true u mb').Has (91 :: 94 :: c :: l) := ⟨[], by show u.data.toList.drop 0 = _; rw [List.drop_zero, e2]; simp⟩
    have hx1 := expect_back (r := rd0 true u mb') rfl hu0
    have hnx : (rd0 true u mb').up.next 94 = true := by rw [hu0.up.next]; rfl
    refine ⟨(((rd0 true u mb').up.up.items n S4.nil).2).at' + 1, ?_, ?_⟩
    · unfold uncl
      dsimp only
      rw [hx1, hnx]
      have hd : decide ((rd0 true u mb').up.e = 0) = true := rfl
      rw [hd]
      simp only [Bool.and_self, if_true]
      rw [hgx, if_neg (by show ¬ (((rd0 true u mb').up.up.items n S4.nil).2).e ≠ 0; simpa using hg), k1, h7]
      simp only [Bool.false_eq_true, if_false]
      rfl
    · have := k2.at_
      rw [tl, ul, e1, e2]
      simp only [List.length_cons]
      omega
end Go.Proofs.YtjaklcmadkpmdaaDoor
end
