/- What is written is read as it was: plain mathematics. -/
import Derived.Test.YtjaklcmadkpmdaaDoorQuoSb
import Derived.Test.YtjaklcmadkpmdaaDoorQuoF
namespace Go.Proofs.YtjaklcmadkpmdaaDoor
open Go Go.RowKit Go.Shelf

/-- What stands at the place. -/
def Rd.Has (r : Rd) (l : List UInt8) : Prop := ∃ rest, r.text.data.toList.drop r.at' = l ++ rest
/-- So many bytes on. -/
def Rd.on (r : Rd) (k : Nat) : Rd := { r with at' := r.at' + k }
theorem Rd.on_on (r : Rd) (j k : Nat) : (r.on j).on k = r.on (j + k) := by unfold Rd.on; simp [Nat.add_assoc]
theorem Rd.on_one (r : Rd) : r.on 1 = r.up := rfl
theorem Rd.Has.app {r : Rd} {l m : List UInt8} (h : r.Has (l ++ m)) : r.Has l := by
  obtain ⟨rest, h⟩ := h
  exact ⟨m ++ rest, by rw [h, List.append_assoc]⟩
theorem Rd.Has.on {r : Rd} {l m : List UInt8} (h : r.Has (l ++ m)) : (r.on l.length).Has m := by
  obtain ⟨rest, h⟩ := h
  refine ⟨rest, ?_⟩
  show r.text.data.toList.drop (r.at' + l.length) = _
  rw [← List.drop_drop, h, List.append_assoc, List.drop_left]
theorem Rd.Has.up {r : Rd} {c : UInt8} {m : List UInt8} (h : r.Has (c :: m)) : r.up.Has m := Rd.Has.on (l := [c]) h
theorem Rd.Has.cur {r : Rd} {c : UInt8} {l : List UInt8} (h : r.Has (c :: l)) : r.cur = some c := by
  obtain ⟨rest, h⟩ := h
  have h0 : (r.text.data.toList.drop r.at')[0]? = some c := by rw [h]; rfl
  rw [List.getElem?_drop] at h0
  unfold Rd.cur
  rw [← Array.getElem?_toList]
  exact h0
theorem Rd.Has.next {r : Rd} {c : UInt8} {l : List UInt8} (h : r.Has (c :: l)) (d : UInt8) : r.next d = (c == d) := by
  unfold Rd.next
  rw [h.cur]
  rfl
theorem Rd.Has.le {r : Rd} {c : UInt8} {l : List UInt8} (h : r.Has (c :: l)) : r.at' + l.length < r.text.size := by
  obtain ⟨rest, h⟩ := h
  have := congrArg List.length h
  rw [List.length_drop] at this
  simp only [List.length_append, List.length_cons, Array.length_toList] at this
  show r.at' + l.length < r.text.data.size
  omega

/-- A sign is of one of these shapes. -/
def shp (cls : Bool) (b : UInt8) : Bool := match sg cls b with
  | [x] => Nat.beq x.toNat b.toNat && (beginsB cls x && !(Nat.beq x.toNat 92))
  | [x, d] => Nat.beq x.toNat 92 && (!(Nat.beq d.toNat 120) && (match findP (behL cls) d.toNat with | some v => Nat.beq v b.toNat | none => false))
  | [x, y, h, l] => Nat.beq x.toNat 92 && (Nat.beq y.toNat 120 && (decide (0 ≤ hexZ h) && (decide (0 ≤ hexZ l) && decide (16 * hexZ h + hexZ l = (b.toNat : Int)))))
  | _ => false
/-- In a class no sign begins by a dash, by ^, by a bracket. -/
def hdB (b : UInt8) : Bool := match sg true b with
  | x :: _ => !(Nat.beq x.toNat 45) && (!(Nat.beq x.toNat 94) && !(Nat.beq x.toNat 93))
  | [] => false
theorem shp_lit : below (fun n => shp false (UInt8.ofNat n)) 256 = true := by kernel_rfl
theorem shp_cls : below (fun n => shp true (UInt8.ofNat n)) 256 = true := by kernel_rfl
theorem hdB_all : below (fun n => hdB (UInt8.ofNat n)) 256 = true := by kernel_rfl
theorem u8_of (b : UInt8) : UInt8.ofNat b.toNat = b := by simp
theorem shp_any (cls : Bool) (b : UInt8) : shp cls b = true := by
  have h := fun p (hp : below p 256 = true) => below_ok hp b.toNat (UInt8.toNat_lt b)
  cases cls
  · have := h _ shp_lit; rwa [u8_of] at this
  · have := h _ shp_cls; rwa [u8_of] at this
theorem hdB_any (b : UInt8) : ∃ x l, sg true b = x :: l ∧ x ≠ 45 ∧ x ≠ 94 ∧ x ≠ 93 := by
  have h := below_ok hdB_all b.toNat (UInt8.toNat_lt b)
  rw [u8_of] at h
  unfold hdB at h
  split at h
  · rename_i x l hx
    simp only [Bool.and_eq_true, Bool.not_eq_true'] at h
    refine ⟨x, l, hx, ?_, ?_, ?_⟩ <;> (rintro rfl; simp at h)
  · cases h
theorem nbeq {x : UInt8} {n : Nat} (h : Nat.beq x.toNat n = true) : x.toNat = n := Nat.eq_of_beq_eq_true h
theorem u8_eq {x : UInt8} {y : UInt8} (h : x.toNat = y.toNat) : x = y := UInt8.toNat_inj.1 h
theorem begins_back (cls : Bool) : beginsB cls 92 = true := by cases cls <;> rfl

theorem digit_back {r : Rd} (he : r.e = 0) {h : UInt8} {m : List UInt8} (hh : r.Has (h :: m)) (hz : 0 ≤ hexZ h) : r.digit = (hexZ h, r.up) := by
  unfold Rd.digit
  rw [if_neg (by simpa using he), hh.cur]
  dsimp only
  rw [if_pos hz]
  rfl
/-- A byte's own sign is read as that byte. -/
theorem sign_back (cls : Bool) (r : Rd) (he : r.e = 0) (b : UInt8) {m : List UInt8} (h : r.Has (sg cls b ++ m)) : r.sign cls = (b, r.on (sg cls b).length) ∧ r.begins cls = true := by
  have hs := shp_any cls b
  unfold shp at hs
  generalize sg cls b = l at hs h
  split at hs
  · rename_i x
    simp only [Bool.and_eq_true, Bool.not_eq_true'] at hs
    obtain ⟨h1, h2, h3⟩ := hs
    have hx : x = b := u8_eq (nbeq h1)
    have hc := Rd.Has.cur (l := m) h
    have h92 : x.toNat ≠ 92 := fun k => by rw [k] at h3; simp at h3
    refine ⟨?_, by unfold Rd.begins; rw [hc]; exact h2⟩
    unfold Rd.sign
    rw [hc]
    dsimp only
    rw [if_neg (by simp [h2]), if_pos h92, hx]
    rfl
  · rename_i x d
    simp only [Bool.and_eq_true, Bool.not_eq_true'] at hs
    obtain ⟨h1, h2, h3⟩ := hs
    have hx : x = 92 := u8_eq (nbeq h1)
    subst hx
    have hc := Rd.Has.cur (l := d :: m) h
    have hd : r.up.Has (d :: m) := Rd.Has.up (m := d :: m) h
    have hnx : r.up.next 120 = false := by
      rw [hd.next, beq_eq_false_iff_ne]
      rintro rfl
      simp at h2
    refine ⟨?_, by unfold Rd.begins; rw [hc]; exact begins_back cls⟩
    unfold Rd.sign
    rw [hc]
    dsimp only
    rw [if_neg (by simp [begins_back cls]), if_neg (by decide), if_neg (by simp [hnx]), hd.cur]
    dsimp only
    split at h3
    · rename_i v hv
      rw [hv]
      dsimp only
      rw [Nat.eq_of_beq_eq_true h3, u8_of]
      rfl
    · cases h3
  · rename_i x y h' l'
    simp only [Bool.and_eq_true, decide_eq_true_eq] at hs
    obtain ⟨h1, h2, h3, h4, h5⟩ := hs
    have hx : x = 92 := u8_eq (nbeq h1)
    have hy : y = 120 := u8_eq (nbeq h2)
    subst hx hy
    have hc := Rd.Has.cur (l := 120 :: h' :: l' :: m) h
    have hu : r.up.Has (120 :: h' :: l' :: m) := Rd.Has.up (m := 120 :: h' :: l' :: m) h
    have huu := hu.up
    have hnx : r.up.next 120 = true := by rw [hu.next]; rfl
    have e1 := digit_back (r := r.up.up) he huu h3
    have e2 := digit_back (r := r.up.up.up) he huu.up h4
    refine ⟨?_, by unfold Rd.begins; rw [hc]; exact begins_back cls⟩
    unfold Rd.sign
    rw [hc]
    dsimp only
    rw [if_neg (by simp [begins_back cls]), if_neg (by decide), if_pos hnx]
    unfold Rd.hex
    rw [e1]
    dsimp only
    rw [e2]
    dsimp only
    rw [h5, Int.toNat_natCast, u8_of]
    rfl
  · cases hs
theorem on_e (r : Rd) (k : Nat) : (r.on k).e = r.e := rfl

/-- Bytes' own signs, up to a byte that begins none. -/
theorem signs_back (cls : Bool) {q : UInt8} (hq : beginsB cls q = false) {m : List UInt8} : ∀ (l : List UInt8) (n : Nat) (r : Rd), r.e = 0 → r.Has (l.flatMap (sg cls) ++ q :: m) → l.length < n →
    r.signs cls n = (l, r.on (l.flatMap (sg cls)).length)
  | _, 0, _, _, _, hn => by omega
  | [], n + 1, r, he, h, _ => by
    have hb : r.begins cls = false := by
      unfold Rd.begins
      rw [Rd.Has.cur (l := m) h]
      exact hq
    rw [Rd.signs, if_neg (by rw [hb]; simp)]
    rfl
  | b :: l, n + 1, r, he, h, hn => by
    rw [List.flatMap_cons, List.append_assoc] at h
    obtain ⟨h1, h2⟩ := sign_back cls r he b h
    have ih := signs_back cls hq l n (r.on (sg cls b).length) he h.on (by simp at hn; omega)
    have he' : ¬ (r.on (sg cls b).length).e ≠ 0 := by rw [on_e]; simpa using he
    rw [Rd.signs, if_pos ⟨he, h2⟩, h1]
    dsimp only
    rw [if_neg he', ih, Rd.on_on, List.flatMap_cons, List.length_append]
theorem expect_back {r : Rd} (he : r.e = 0) {c : UInt8} {m : List UInt8} (h : r.Has (c :: m)) : r.expect c = r.up := by
  unfold Rd.expect
  rw [if_neg (by simpa using he), h.next, if_pos (beq_self_eq_true c)]
  rfl
theorem rd0_has {cls : Bool} {t : ByteArray} {mb : Nat} {l m : List UInt8} (h : t.data.toList = l ++ m) : (rd0 cls t mb).Has l := ⟨m, h⟩
theorem bytes_eq (s : ByteArray) : (⟨s.data.toList.toArray⟩ : ByteArray) = s := by cases s; simp

/-- A text's literal is read as that text. -/
theorem unl_back (s t : ByteArray) (mb : Nat) {m : List UInt8} (ht : t.data.toList = litL s ++ m) (hs : s.size ≤ 255) (n : Nat) (hn : t.size < n) : unl t mb n = (s, (litL s).length, 0) := by
  have hl : litL s = 34 :: (s.data.toList.flatMap (sg false) ++ [34]) := by
    unfold litL litP
    rw [List.take_of_length_le (by rw [Array.length_toList]; exact Nat.le_refl _)]
    simp
  have hsz : t.size = t.data.toList.length := by rw [Array.length_toList]; rfl
  rw [ht, hl] at hsz
  rw [hl] at ht
  have h0 : (rd0 false t mb).Has (34 :: (s.data.toList.flatMap (sg false) ++ 34 :: m)) := ⟨[], by show t.data.toList.drop 0 = _; rw [List.drop_zero, ht]; simp⟩
  have h1 := expect_back (r := rd0 false t mb) rfl h0
  have hsl : s.data.toList.length = s.size := by rw [Array.length_toList]; rfl
  have hle : s.data.toList.length ≤ (s.data.toList.flatMap (sg false)).length := by
    have : ∀ l : List UInt8, l.length ≤ (l.flatMap (sg false)).length := by
      intro l
      induction l with
      | nil => simp
      | cons b l ih =>
        have hb : 1 ≤ (sg false b).length := by
          have := shp_any false b
          unfold shp at this
          rcases hx : sg false b with _ | ⟨x, r⟩
          · rw [hx] at this; cases this
          · simp
        rw [List.flatMap_cons, List.length_append, List.length_cons]
        omega
    exact this _
  have hlen : t.size = 1 + (s.data.toList.flatMap (sg false)).length + 1 + m.length := by rw [hsz]; simp; omega
  have h2 := signs_back false (q := 34) (by decide) s.data.toList n (rd0 false t mb).up rfl h0.up (by omega)
  have h3 := Rd.lit_signs false 34 (by decide) n (rd0 false t mb).up rfl (by show 1 ≤ t.size; omega) (by show t.size < n + 1; omega)
  rw [h2] at h3
  dsimp only at h3
  have h4 := expect_back (r := (rd0 false t mb).up.on (s.data.toList.flatMap (sg false)).length) rfl h0.up.on
  rw [h4] at h3
  unfold unl
  dsimp only
  rw [h1, if_neg (by show ¬ (0 : Nat) ≠ 0; simp), h3.1, h3.2, if_neg (by show ¬ (0 : Nat) ≠ 0; simp), if_neg (by omega), bytes_eq]
  refine Prod.ext rfl (Prod.ext ?_ rfl)
  show 0 + 1 + (s.data.toList.flatMap (sg false)).length + 1 = (litL s).length
  rw [hl]
  simp
  omega

/-! ### Classes -/

/-- Which bytes some runs hold. -/
def inR (R : List (UInt8 × UInt8)) (n : Nat) : Bool := R.any fun p => decide (p.1.toNat ≤ n ∧ n ≤ p.2.toNat)
theorem has_rg (x y : UInt8) (n : Nat) (hn : n < 256) : (rg x y).has n = decide (x.toNat ≤ n ∧ n ≤ y.toNat) := by
  unfold rg
  rw [S4.has_ofL _ _ (by intro k hk; have := UInt8.toNat_lt y; rw [List.mem_range'_1] at hk; omega) n hn, S4.has_nil]
  rw [Bool.false_or, decide_eq_decide, List.mem_range'_1]
  omega
theorem ok_rg (x y : UInt8) : (rg x y).ok := S4.ok_ofL _ S4.ok_nil

/-- One sign alone. -/
theorem gone_one {r0 s : Rd} {S : S4} (h : GoneC r0 S s) (he : s.e = 0) (a : UInt8) {c : UInt8} {m : List UInt8} (hh : s.Has (sg true a ++ c :: m)) (hc : c ≠ 45) : GoneC r0 (S.or (rg a a)) (s.on (sg true a).length) := by
  obtain ⟨h1, h2⟩ := sign_back true s he a hh
  have hn : (s.on (sg true a).length).next 45 = false := by rw [hh.on.next, beq_eq_false_iff_ne]; exact hc
  have hp : 0 < (sg true a).length := by obtain ⟨x, l, e, _⟩ := hdB_any a; rw [e]; simp
  exact h.step he h2 (item_one h1 he hn) he (by show s.at' < s.at' + _; omega)
/-- A run. -/
theorem gone_run {r0 s : Rd} {S : S4} (hS : S.ok) (h : GoneC r0 S s) (he : s.e = 0) (p : UInt8 × UInt8) (hp : p.1.toNat ≤ p.2.toNat) {c : UInt8} {m : List UInt8} (hh : s.Has (runL p ++ c :: m)) (hc : c ≠ 45) :
    ∃ S', S'.ok ∧ GoneC r0 S' (s.on (runL p).length) ∧ ∀ n, n < 256 → S'.has n = (S.has n || decide (p.1.toNat ≤ n ∧ n ≤ p.2.toNat)) := by
  obtain ⟨a, b⟩ := p
  dsimp only at hp
  have ha := UInt8.toNat_lt a
  have hb := UInt8.toNat_lt b
  have hw : IntKind.u8.wrap ((b.toNat : Int) - (a.toNat : Int)) = (b.toNat : Int) - a.toNat := by rw [IntKind.wrap_u8]; exact Int.emod_eq_of_lt (by omega) (by omega)
  unfold runL far oth at hh ⊢
  dsimp only at hh ⊢
  rw [hw] at hh ⊢
  by_cases e0 : a = b
  · subst e0
    have d1 : decide (1 < (a.toNat : Int) - (a.toNat : Int)) = false := by rw [decide_eq_false_iff_not]; omega
    have d2 : ((a.toNat : Int) != (a.toNat : Int)) = false := by simp
    rw [d1, d2] at hh ⊢
    simp only [Bool.false_eq_true, if_false, List.append_nil] at hh ⊢
    exact ⟨_, S4.ok_or hS (ok_rg a a), gone_one h he a hh hc, fun n hn => by rw [S4.has_or, has_rg _ _ _ hn]⟩
  · have hne : a.toNat ≠ b.toNat := fun k => e0 (u8_eq k)
    have d2 : ((b.toNat : Int) != (a.toNat : Int)) = true := by rw [bne_iff_ne]; omega
    rw [d2] at hh ⊢
    simp only [if_true] at hh ⊢
    by_cases e1 : a.toNat + 1 = b.toNat
    · have d1 : decide (1 < (b.toNat : Int) - (a.toNat : Int)) = false := by rw [decide_eq_false_iff_not]; omega
      rw [d1] at hh ⊢
      simp only [Bool.false_eq_true, if_false, List.append_nil, List.append_assoc] at hh ⊢
      obtain ⟨x, l, ex, hx, _⟩ := hdB_any b
      have hh1 := hh
      rw [ex, List.cons_append] at hh1
      have g1 := gone_one h he a hh1 hx
      have g2 := gone_one g1 he b hh.on hc
      rw [Rd.on_on, ← List.length_append] at g2
      exact ⟨_, S4.ok_or (S4.ok_or hS (ok_rg a a)) (ok_rg b b), g2, fun n hn => by
        rw [S4.has_or, S4.has_or, has_rg _ _ _ hn, has_rg _ _ _ hn, Bool.or_assoc, ← Bool.decide_or]
        congr 1
        rw [decide_eq_decide]
        omega⟩
    · have d1 : decide (1 < (b.toNat : Int) - (a.toNat : Int)) = true := by rw [decide_eq_true_eq]; omega
      rw [d1] at hh ⊢
      simp only [if_true, List.append_assoc, List.cons_append, List.nil_append] at hh ⊢
      obtain ⟨h1, h2⟩ := sign_back true s he a hh
      have hn : (s.on (sg true a).length).next 45 = true := by rw [hh.on.next]; rfl
      obtain ⟨h3, h4⟩ := sign_back true (s.on (sg true a).length).up he b hh.on.up
      have hi := item_two h1 he hn h3
      rw [if_neg (by rintro ⟨_, k⟩; omega)] at hi
      have g := h.step he h2 hi he (by show s.at' < s.at' + (sg true a).length + 1 + (sg true b).length; omega)
      have e : ((s.on (sg true a).length).up).on (sg true b).length = s.on (sg true a ++ 45 :: sg true b).length := by
        rw [← Rd.on_one, Rd.on_on, Rd.on_on]
        congr 1
        simp
        omega
      rw [e] at g
      exact ⟨_, S4.ok_or hS (ok_rg a b), g, fun n hn => by rw [S4.has_or, has_rg _ _ _ hn]⟩
theorem runL_head (p : UInt8 × UInt8) (m : List UInt8) : ∃ x l, runL p ++ m = x :: l ∧ x ≠ 45 ∧ x ≠ 94 ∧ x ≠ 93 := by
  obtain ⟨x, l, e, h⟩ := hdB_any p.1
  exact ⟨x, l ++ (if far p then [45] else []) ++ (if oth p then sg true p.2 else []) ++ m, by unfold runL; rw [e]; simp, h⟩
theorem runs_head : ∀ (R : List (UInt8 × UInt8)) (m : List UInt8), ∃ x l, R.flatMap runL ++ 93 :: m = x :: l ∧ x ≠ 45 ∧ x ≠ 94
  | [], m => ⟨93, m, rfl, by decide, by decide⟩
  | p :: R, m => by
    obtain ⟨x, l, e, h1, h2, _⟩ := runL_head p (R.flatMap runL ++ 93 :: m)
    exact ⟨x, l, by rw [List.flatMap_cons, List.append_assoc, e], h1, h2⟩
theorem gone_runs {r0 : Rd} {m : List UInt8} : ∀ (R : List (UInt8 × UInt8)) (s : Rd) (S : S4), S.ok → GoneC r0 S s → s.e = 0 → (∀ p ∈ R, p.1.toNat ≤ p.2.toNat) → s.Has (R.flatMap runL ++ 93 :: m) →
    ∃ S', S'.ok ∧ GoneC r0 S' (s.on (R.flatMap runL).length) ∧ ∀ n, n < 256 → S'.has n = (S.has n || inR R n)
  | [], s, S, hS, hg, _, _, _ => ⟨S, hS, hg, fun n _ => by simp [inR]⟩
  | p :: R, s, S, hS, hg, he, hp, hh => by
    rw [List.flatMap_cons, List.append_assoc] at hh
    obtain ⟨x, l, e, hx, _⟩ := runs_head R m
    have hh1 := hh
    rw [e] at hh1
    obtain ⟨S1, o1, g1, k1⟩ := gone_run hS hg he p (hp p (List.mem_cons_self ..)) hh1 hx
    obtain ⟨S2, o2, g2, k2⟩ := gone_runs R _ S1 o1 g1 he (fun q hq => hp q (List.mem_cons_of_mem _ hq)) hh.on
    refine ⟨S2, o2, ?_, fun n hn => ?_⟩
    · rw [Rd.on_on] at g2
      rw [List.flatMap_cons, List.length_append]
      exact g2
    · rw [k2 n hn, k1 n hn, Bool.or_assoc]
      rfl

/-- What the runs of some bytes hold is these bytes. -/
theorem rs_cov (l : List UInt8) : (∀ p ∈ rs l, p.1.toNat ≤ p.2.toNat) ∧ ∀ n, inR (rs l) n = true ↔ ∃ b ∈ l, b.toNat = n := by
  have key : ∀ (l : List UInt8) (R : List (UInt8 × UInt8)) (k : List UInt8), ((∀ p ∈ R, p.1.toNat ≤ p.2.toNat) ∧ ∀ n, inR R n = true ↔ ∃ b ∈ k, b.toNat = n) →
      (∀ p ∈ l.foldl addRun R, p.1.toNat ≤ p.2.toNat) ∧ ∀ n, inR (l.foldl addRun R) n = true ↔ ∃ b ∈ k ++ l, b.toNat = n := by
    intro l
    induction l with
    | nil => intro R k h; simpa using h
    | cons b l ih =>
      intro R k h
      have e : k ++ b :: l = (k ++ [b]) ++ l := by simp
      rw [List.foldl_cons, e]
      refine ih (addRun R b) (k ++ [b]) ?_
      obtain ⟨h1, h2⟩ := h
      have ext : ∀ n, (∃ c ∈ k ++ [b], c.toNat = n) ↔ ((∃ c ∈ k, c.toNat = n) ∨ b.toNat = n) := by
        intro n
        constructor
        · rintro ⟨c, hc, ec⟩
          rcases List.mem_append.1 hc with hc | hc
          · exact .inl ⟨c, hc, ec⟩
          · rw [List.mem_singleton] at hc; subst hc; exact .inr ec
        · rintro (⟨c, hc, e⟩ | e)
          · exact ⟨c, List.mem_append_left _ hc, e⟩
          · exact ⟨b, by simp, e⟩
      rcases List.eq_nil_or_concat R with rfl | ⟨M, p, rfl⟩
      · rw [addRun_nil]
        refine ⟨by intro q hq; simp at hq; subst hq; exact Nat.le_refl _, fun n => ?_⟩
        rw [ext, ← h2 n]
        simp [inR]
        omega
      · rw [List.concat_eq_append] at h1 h2 ⊢
        by_cases hpb : p.2.toNat + 1 = b.toNat
        · rw [addRun_on _ _ _ hpb]
          have hp := h1 p (by simp)
          refine ⟨?_, fun n => ?_⟩
          · intro q hq
            rcases List.mem_append.1 hq with hq | hq
            · exact h1 q (List.mem_append_left _ hq)
            · simp at hq; subst hq; show p.1.toNat ≤ b.toNat; omega
          · rw [ext, ← h2 n]
            simp only [inR, List.any_append, List.any_cons, List.any_nil, Bool.or_false, Bool.or_eq_true, decide_eq_true_eq]
            constructor
            · rintro (h | h)
              · exact .inl (.inl h)
              · by_cases hn : n = b.toNat
                · exact .inr hn.symm
                · exact .inl (.inr (by omega))
            · rintro ((h | h) | h)
              · exact .inl h
              · exact .inr (by omega)
              · exact .inr (by omega)
        · rw [addRun_new _ _ _ hpb]
          refine ⟨?_, fun n => ?_⟩
          · intro q hq
            rcases List.mem_append.1 hq with hq | hq
            · exact h1 q hq
            · simp at hq; subst hq; exact Nat.le_refl _
          · rw [ext, ← h2 n]
            simp only [inR, List.any_append, List.any_cons, List.any_nil, Bool.or_false, Bool.or_eq_true, decide_eq_true_eq]
            constructor
            · rintro (h | h)
              · exact .inl h
              · exact .inr (by omega)
            · rintro (h | h)
              · exact .inl h
              · exact .inr (by omega)
  have := key l [] [] ⟨by simp, by simp [inR]⟩
  exact this
theorem inR_set (S : S4) (n : Nat) (hn : n < 256) : inR (rs (lstB S)) n = S.has n := by
  rw [Bool.eq_iff_iff, (rs_cov (lstB S)).2 n]
  unfold lstB
  constructor
  · rintro ⟨b, hb, e⟩
    obtain ⟨k, hk, rfl⟩ := List.mem_map.1 hb
    obtain ⟨h1, h2⟩ := S4.mem_lst.1 hk
    have : (UInt8.ofNat k).toNat = k := by simp; omega
    rw [this] at e
    rw [← e]; exact h2
  · intro h
    exact ⟨UInt8.ofNat n, List.mem_map.2 ⟨n, S4.mem_lst.2 ⟨hn, h⟩, rfl⟩, by simp; omega⟩

/-- A set's class is read as that set. -/
theorem uncl_back (S : S4) (hS : S.ok) (hE : same4 S S4.nil.not = false) (t : ByteArray) (mb : Nat) {m : List UInt8} (ht : t.data.toList = clsL S ++ m) (n : Nat) (hn : t.size < n) : uncl t mb n = (S, (clsL S).length, 0) := by
  have hl : clsL S = 91 :: ((rs (lstB S)).flatMap runL ++ [93]) := by
    unfold clsL clsP
    rw [hE]
    simp
  rw [hl] at ht
  have hsz : t.size = t.data.toList.length := by rw [Array.length_toList]; rfl
  rw [ht] at hsz
  have h0 : (rd0 true t mb).Has (91 :: ((rs (lstB S)).flatMap runL ++ 93 :: m)) := ⟨[], by show t.data.toList.drop 0 = _; rw [List.drop_zero, ht]; simp⟩
  have h1 := expect_back (r := rd0 true t mb) rfl h0
  obtain ⟨x, l, e, hx, hx2⟩ := runs_head (rs (lstB S)) m
  have hnx : (rd0 true t mb).up.next 94 = false := by
    have := h0.up
    rw [e] at this
    rw [this.next, beq_eq_false_iff_ne]
    exact hx2
  obtain ⟨S', o, g, k⟩ := gone_runs (rs (lstB S)) _ S4.nil S4.ok_nil (GoneC.start (rd0 true t mb).up) rfl (rs_cov _).1 h0.up
  have hSS : S' = S := S4.ext o hS fun n hn => by rw [k n hn, S4.has_nil, Bool.false_or, inR_set S n hn]
  subst hSS
  have hend := h0.up.on
  have hb : ((rd0 true t mb).up.on ((rs (lstB S')).flatMap runL).length).begins true = false := by
    unfold Rd.begins
    rw [hend.cur]
    rfl
  have hlen : t.size = 1 + ((rs (lstB S')).flatMap runL).length + 1 + m.length := by rw [hsz]; simp; omega
  have hf := g.fin (.inl ⟨by rw [hb]; simp, rfl⟩) n (by show 0 + 1 + _ < n; omega)
  unfold uncl
  dsimp only
  rw [h1, hnx]
  simp only [Bool.and_false, Bool.false_eq_true, if_false]
  rw [hf]
  dsimp only
  rw [expect_back (r := (rd0 true t mb).up.on _) rfl hend, if_neg (by show ¬ (0 : Nat) ≠ 0; simp)]
  refine Prod.ext rfl (Prod.ext ?_ rfl)
  show 0 + 1 + ((rs (lstB S')).flatMap runL).length + 1 = (clsL S').length
  rw [hl]
  simp
  omega
end Go.Proofs.YtjaklcmadkpmdaaDoor
