/- What is made and turned in memory; operands. No program is named. -/
import Derived.Test.YtjaklcmadkpmdaaDoorCeC
noncomputable section
namespace Go.CE
open Go

variable {P : Program} {B0 : Nat} {A W W' : Nat → Prop} {ρ ρ' ρ'' : Rho} {m m' m'' : M} {w w' w'' : World}

/-- ρ, and one number more. -/
def ins (ρ : Rho) (i : Nat) (s : Seg) : Rho := fun j => if j = i then some s else ρ j

theorem ins_ext {i : Nat} {s : Seg} (h : ρ i = none) : Ext ρ (ins ρ i s) := fun j t hj => by
  unfold ins
  by_cases e : j = i
  · subst e; rw [h] at hj; cases hj
  · rw [if_neg e]; exact hj

theorem ins_self (i : Nat) (s : Seg) : ins ρ i s i = some s := if_pos rfl
theorem ins_other {i j : Nat} {s : Seg} (h : j ≠ i) : ins ρ i s j = ρ j := if_neg h

theorem Rel.lt_nx (hw : WF P m) (h : Rel P B0 A ρ m.H w) {id : Nat} {s : Seg} (hs : ρ id = some s) (hl : Live m.H id) : id < m.nx := by
  rcases Nat.lt_or_ge id m.nx with h' | h'
  · exact h'
  · exact absurd (hw.dead id h' (h.cap id s hs)) hl

/-- A new object, in a new block. -/
theorem Post.alloc (hw : WF P m) (h : Rel P B0 A ρ m.H w) (hnx : m.nx < capN hd) (hρ : ρ m.nx = none) (o : Obj) (ob : Ob) (x : Nat)
    (ho : OR (ins ρ m.nx ⟨w.heap.size, 0, x⟩) ⟨w.heap.size, 0, x⟩ ob (some o)) (rm wm : Nat) (dfs : List Nat) :
    Post P B0 A W ρ m w (ins ρ m.nx ⟨w.heap.size, 0, x⟩) ⟨updN hd m.nx m.H ob, m.nx + 1, rm, wm, dfs⟩ (w.alloc o) := by
  have hext : Ext ρ (ins ρ m.nx ⟨w.heap.size, 0, x⟩) := ins_ext hρ
  have hobj : ∀ j, j < capN hd → obj (updN hd m.nx m.H ob) j = if j = m.nx then ob else obj m.H j := fun j hj => obj_upd hnx hj
  have hheap : ∀ b, b < w.heap.size → (w.alloc o).heap[b]? = w.heap[b]? := fun b hb => by
    simp only [World.alloc, Array.getElem?_push]
    rw [if_neg (Nat.ne_of_lt hb)]
  have hnew : (w.alloc o).heap[w.heap.size]? = some o := by show (w.heap.push o)[w.heap.size]? = some o; exact Array.getElem?_push_size
  refine ⟨hext, fun id s hs => ?_, Nat.le_succ _, ⟨?_, hnx, fun id hid hc => ?_⟩, ⟨h.gb, ?_, fun id s hs => ?_, fun id s hs => ?_, fun g hg => hext _ _ (h.glob g hg), fun id s hs hg => ?_, ?_, ?_⟩, ?_, fun b hb _ => hheap b hb, ?_, fun id hid _ => ?_, fun id hid hdd => ?_, fun id hid _ => ?_, rfl, rfl, rfl⟩
  · unfold ins at hs
    by_cases e : id = m.nx
    · exact .inr ⟨by omega, by show id < m.nx + 1; omega⟩
    · rw [if_neg e] at hs; exact .inl hs
  · show glb P ≤ m.nx + 1
    have := hw.gnx; omega
  · show obj (updN hd m.nx m.H ob) id = .dead
    have hid' : m.nx + 1 ≤ id := hid
    rw [hobj id hc, if_neg (by omega)]
    exact hw.dead id (by omega) hc
  · rw [World.size_alloc]; have := h.b0; omega
  · unfold ins at hs
    by_cases e : id = m.nx
    · rw [e]; exact hnx
    · rw [if_neg e] at hs; exact h.cap id s hs
  · unfold ins at hs
    rw [World.size_alloc]
    by_cases e : id = m.nx
    · rw [if_pos e] at hs; cases hs; exact Nat.lt_succ_self _
    · rw [if_neg e] at hs; have := h.lt id s hs; omega
  · unfold ins at hs
    by_cases e : id = m.nx
    · rw [if_pos e] at hs; cases hs; exact h.b0
    · rw [if_neg e] at hs; exact h.own id s hs hg
  · intro id id' s s' hA hA' hg hg' hs hs' hl hl' e
    by_cases e1 : id = m.nx
    · by_cases e2 : id' = m.nx
      · rw [e1, e2]
      · rw [ins_other e2] at hs'
        rw [e1, ins_self] at hs; cases hs
        have := h.lt id' s' hs'
        simp only at e; omega
    · by_cases e2 : id' = m.nx
      · rw [ins_other e1] at hs
        rw [e2, ins_self] at hs'; cases hs'
        have := h.lt id s hs
        simp only at e; omega
      · rw [ins_other e1] at hs
        rw [ins_other e2] at hs'
        have c1 := h.cap id s hs
        have c2 := h.cap id' s' hs'
        refine h.inj id id' s s' hA hA' hg hg' hs hs' (fun hdd => hl ?_) (fun hdd => hl' ?_) e
        · rw [show ({ H := updN hd m.nx m.H ob, nx := m.nx + 1, rm := rm, wm := wm, dfs := dfs } : M).H = updN hd m.nx m.H ob from rfl, hobj id c1, if_neg e1]; exact hdd
        · rw [show ({ H := updN hd m.nx m.H ob, nx := m.nx + 1, rm := rm, wm := wm, dfs := dfs } : M).H = updN hd m.nx m.H ob from rfl, hobj id' c2, if_neg e2]; exact hdd
  · intro id s hs hA
    show OR _ s (obj (updN hd m.nx m.H ob) id) _
    by_cases e1 : id = m.nx
    · rw [e1, ins_self] at hs; cases hs
      rw [e1, hobj m.nx hnx, if_pos rfl]
      show OR _ _ ob ((w.alloc o).heap[w.heap.size]?)
      rw [hnew]; exact ho
    · rw [ins_other e1] at hs
      rw [hobj id (h.cap id s hs), if_neg e1, hheap s.blk (h.lt id s hs)]
      exact OR.mono hext (h.rows id s hs hA)
  · rw [World.size_alloc]; omega
  · intro id s hs h0
    by_cases e1 : id = m.nx
    · rw [e1, ins_self] at hs; cases hs; exact .inl (Nat.le_refl _)
    · rw [ins_other e1, h0] at hs; cases hs
  · show obj (updN hd m.nx m.H ob) id = _
    rw [hobj id (by omega), if_neg (by omega)]
  · show obj (updN hd m.nx m.H ob) id = _
    rw [hobj id (by omega), if_neg (by omega)]; exact hdd
  · show obj (updN hd m.nx m.H ob) id = _
    rw [hobj id (by omega), if_neg (by omega)]

/-- An object that was there is turned. -/
theorem Post.turn (hw : WF P m) (h : Rel P B0 A ρ m.H w) {id : Nat} {s : Seg} (hA : A id) (hs : ρ id = some s) (hg : glb P ≤ id) (hl : Live m.H id) (ob : Ob) (w' : World)
    (hsz : w'.heap.size = w.heap.size) (hoth : ∀ b, b ≠ s.blk → w'.heap[b]? = w.heap[b]?) (ho : OR ρ s ob w'.heap[s.blk]?)
    (ht : w'.tape = w.tape) (hos : w'.os = w.os) (hout : w'.output = w.output) (rm wm : Nat) (dfs : List Nat) :
    Post P B0 A (fun i => i = id) ρ m w ρ ⟨updN hd id m.H ob, m.nx, rm, wm, dfs⟩ w' := by
  have hc := h.cap id s hs
  have hlt := h.lt_nx hw hs hl
  have hobj : ∀ j, j < capN hd → obj (updN hd id m.H ob) j = if j = id then ob else obj m.H j := fun j hj => obj_upd hc hj
  have hback : ∀ i t, ρ i = some t → Live (updN hd id m.H ob) i → Live m.H i := fun i t hi hL hdd => by
    by_cases e : i = id
    · rw [e] at hdd; exact hl hdd
    · exact hL (by rw [hobj i (h.cap i t hi), if_neg e]; exact hdd)
  refine ⟨fun _ _ h => h, fun _ _ h => .inl h, Nat.le_refl _, ⟨hw.gnx, hw.cap, fun i hi hic => ?_⟩, ⟨h.gb, by rw [hsz]; exact h.b0, h.cap, fun i t hi => by rw [hsz]; exact h.lt i t hi, h.glob, h.own, ?_, ?_⟩, by rw [hsz]; exact Nat.le_refl _, ?_, ?_, ?_, ?_, ?_, ht, hos, hout⟩
  · show obj (updN hd id m.H ob) i = _
    have hi' : m.nx ≤ i := hi
    rw [hobj i hic, if_neg (by omega)]; exact hw.dead i hi hic
  · intro i i' t t' a a' g g' hi hi' hL hL' e
    exact h.inj i i' t t' a a' g g' hi hi' (hback i t hi hL) (hback i' t' hi' hL') e
  · intro i t hi hAi
    show OR ρ t (obj (updN hd id m.H ob) i) _
    rw [hobj i (h.cap i t hi)]
    by_cases e : i = id
    · rw [e, hs] at hi; cases hi
      rw [if_pos e]; exact ho
    · rw [if_neg e]
      by_cases hd' : obj m.H i = .dead
      · rw [hd']; trivial
      · have hne : t.blk ≠ s.blk := fun he => by
          rcases Nat.lt_or_ge i (glb P) with hig | hig
          · have h1 := h.glob i hig
            rw [hi] at h1; cases h1
            have h2 := h.own id s hs hg
            have h3 := h.gb
            simp only at he; omega
          · rcases hAi with hAi | hAi
            · exact e (h.inj i id t s hAi hA hig hg hi hs hd' hl he)
            · omega
        rw [hoth _ hne]
        exact h.rows i t hi hAi
  · intro b hb hn
    exact hoth b (fun e => hn id s hs hg rfl hl e.symm)
  · intro i t h1 h2
    rw [h1] at h2; cases h2
  · intro i hi hn
    show obj (updN hd id m.H ob) i = _
    rw [hobj i (by have := hw.cap; omega), if_neg hn]
  · intro i hi hd'
    show obj (updN hd id m.H ob) i = _
    rw [hobj i (by have := hw.cap; omega), if_neg (fun e => hl (by rw [← e]; exact hd'))]
    exact hd'
  · intro i hi hc0
    show obj (updN hd id m.H ob) i = _
    rw [hobj i (by have := hw.cap; omega), if_neg (fun e => by
      subst e
      rcases hc0 with hc0 | hc0
      · rw [hs] at hc0; cases hc0
      · omega)]

/-- An object that was there is looked at no more; a new one takes its block, or a new block. -/
theorem Post.move (hw : WF P m) (h : Rel P B0 A ρ m.H w) {id : Nat} {s : Seg} (hA : A id) (hs : ρ id = some s) (hg : glb P ≤ id) (hl : Live m.H id) (hnx : m.nx < capN hd) (hρ : ρ m.nx = none)
    (ob : Ob) (s' : Seg) (w' : World) (hsz : w.heap.size ≤ w'.heap.size) (hblk : s'.blk = s.blk ∨ (w.heap.size ≤ s'.blk ∧ s'.blk < w'.heap.size)) (hoth : ∀ b, b < w.heap.size → b ≠ s.blk → w'.heap[b]? = w.heap[b]?)
    (ho : OR (ins ρ m.nx s') s' ob w'.heap[s'.blk]?) (ht : w'.tape = w.tape) (hos : w'.os = w.os) (hout : w'.output = w.output) (rm wm : Nat) (dfs : List Nat) :
    Post P B0 A (fun i => i = id) ρ m w (ins ρ m.nx s') ⟨updN hd m.nx (updN hd id m.H .dead) ob, m.nx + 1, rm, wm, dfs⟩ w' := by
  have hc := h.cap id s hs
  have hlt := h.lt_nx hw hs hl
  have hext : Ext ρ (ins ρ m.nx s') := ins_ext hρ
  have hobj : ∀ j, j < capN hd → obj (updN hd m.nx (updN hd id m.H .dead) ob) j = if j = m.nx then ob else if j = id then .dead else obj m.H j := fun j hj => by
    rw [obj_upd hnx hj]; by_cases e : j = m.nx
    · rw [if_pos e, if_pos e]
    · rw [if_neg e, if_neg e, obj_upd hc hj]
  have hsb : s.blk < w.heap.size := h.lt id s hs
  have hs'lt : s'.blk < w'.heap.size := by rcases hblk with e | e <;> omega
  have hs'B : B0 ≤ s'.blk := by
    have := h.own id s hs hg
    have := h.b0
    rcases hblk with e | e <;> omega
  -- a number of before, other than id, that lives: its block is neither
  have hother : ∀ i t, (A i ∨ i < glb P) → ρ i = some t → i ≠ id → Live m.H i → t.blk ≠ s.blk ∧ t.blk ≠ s'.blk := fun i t hAi hi hne hL => by
    have h1 : t.blk ≠ s.blk := fun he => by
      rcases Nat.lt_or_ge i (glb P) with hig | hig
      · have h1 := h.glob i hig
        rw [hi] at h1; cases h1
        have h2 := h.own id s hs hg
        have h3 := h.gb
        simp only at he; omega
      · rcases hAi with hAi | hAi
        · exact hne (h.inj i id t s hAi hA hig hg hi hs hL hl he)
        · omega
    refine ⟨h1, ?_⟩
    have := h.lt i t hi
    rcases hblk with e | e
    · rw [e]; exact h1
    · omega
  refine ⟨hext, fun i t hi => ?_, Nat.le_succ _, ⟨?_, hnx, fun i hi hic => ?_⟩, ⟨h.gb, Nat.le_trans h.b0 hsz, fun i t hi => ?_, fun i t hi => ?_, fun g hg => hext _ _ (h.glob g hg), fun i t hi hgi => ?_, ?_, ?_⟩, hsz, ?_, ?_, ?_, ?_, ?_, ht, hos, hout⟩
  · by_cases e : i = m.nx
    · exact .inr ⟨by omega, by show i < m.nx + 1; omega⟩
    · rw [ins_other e] at hi; exact .inl hi
  · show glb P ≤ m.nx + 1
    have := hw.gnx; omega
  · show obj (updN hd m.nx (updN hd id m.H .dead) ob) i = .dead
    have hi' : m.nx + 1 ≤ i := hi
    rw [hobj i hic, if_neg (by omega), if_neg (by omega)]
    exact hw.dead i (by omega) hic
  · by_cases e : i = m.nx
    · rw [e]; exact hnx
    · rw [ins_other e] at hi; exact h.cap i t hi
  · by_cases e : i = m.nx
    · rw [e, ins_self] at hi; cases hi; exact hs'lt
    · rw [ins_other e] at hi; have := h.lt i t hi; omega
  · by_cases e : i = m.nx
    · rw [e, ins_self] at hi; cases hi; exact hs'B
    · rw [ins_other e] at hi; exact h.own i t hi hgi
  · intro i i' t t' a a' g g' hi hi' hL hL' e
    have back : ∀ j u, ρ j = some u → j ≠ m.nx → Live (updN hd m.nx (updN hd id m.H .dead) ob) j → j ≠ id ∧ Live m.H j := fun j u hj hj1 hLj => by
      have hjc := h.cap j u hj
      refine ⟨fun e => hLj ?_, fun hd' => hLj ?_⟩
      · show obj _ j = _
        rw [hobj j hjc, if_neg hj1, if_pos e]
      · show obj _ j = _
        rw [hobj j hjc, if_neg hj1]
        by_cases e : j = id
        · rw [if_pos e]
        · rw [if_neg e]; exact hd'
    by_cases e1 : i = m.nx
    · by_cases e2 : i' = m.nx
      · rw [e1, e2]
      · rw [ins_other e2] at hi'
        rw [e1, ins_self] at hi; cases hi
        have hb := back i' t' hi' e2 hL'
        exact absurd e.symm (hother i' t' (.inl a') hi' hb.1 hb.2).2
    · by_cases e2 : i' = m.nx
      · rw [ins_other e1] at hi
        rw [e2, ins_self] at hi'; cases hi'
        have hb := back i t hi e1 hL
        exact absurd e (hother i t (.inl a) hi hb.1 hb.2).2
      · rw [ins_other e1] at hi
        rw [ins_other e2] at hi'
        exact h.inj i i' t t' a a' g g' hi hi' (back i t hi e1 hL).2 (back i' t' hi' e2 hL').2 e
  · intro i t hi hAi
    show OR _ t (obj (updN hd m.nx (updN hd id m.H .dead) ob) i) _
    by_cases e1 : i = m.nx
    · rw [e1, ins_self] at hi; cases hi
      rw [e1, hobj m.nx hnx, if_pos rfl]; exact ho
    · rw [ins_other e1] at hi
      rw [hobj i (h.cap i t hi), if_neg e1]
      by_cases e2 : i = id
      · rw [if_pos e2]; trivial
      · rw [if_neg e2]
        by_cases hd' : obj m.H i = .dead
        · rw [hd']; trivial
        · rw [hoth _ (h.lt i t hi) (hother i t hAi hi e2 hd').1]
          exact OR.mono hext (h.rows i t hi hAi)
  · intro b hb hn
    exact hoth b hb (fun e => hn id s hs hg rfl hl e.symm)
  · intro i t h1 h2
    by_cases e1 : i = m.nx
    · rw [e1, ins_self] at h1; cases h1
      rcases hblk with e | e
      · exact .inr ⟨id, s, hs, hg, rfl, hl, e.symm⟩
      · exact .inl e.1
    · rw [ins_other e1, h2] at h1; cases h1
  · intro i hi hn
    show obj (updN hd m.nx (updN hd id m.H .dead) ob) i = _
    rw [hobj i (by have := hw.cap; omega), if_neg (by omega), if_neg hn]
  · intro i hi hd'
    show obj (updN hd m.nx (updN hd id m.H .dead) ob) i = _
    rw [hobj i (by have := hw.cap; omega), if_neg (by omega)]
    by_cases e : i = id
    · rw [if_pos e]
    · rw [if_neg e]; exact hd'
  · intro i hi hc0
    show obj (updN hd m.nx (updN hd id m.H .dead) ob) i = _
    rw [hobj i (by have := hw.cap; omega), if_neg (by omega), if_neg (fun e => by
      subst e
      rcases hc0 with hc0 | hc0
      · rw [hs] at hc0; cases hc0
      · omega)]

/-! ### The model's constants -/

theorem strV_back (s : ByteArray) : strV (s.data.toList.map UInt8.toNat) = .string s ∧ ∀ c ∈ s.data.toList.map UInt8.toNat, c < 256 := by
  refine ⟨?_, fun c hc => ?_⟩
  · unfold strV
    have h1 : (s.data.toList.map UInt8.toNat).map UInt8.ofNat = s.data.toList := by
      rw [List.map_map]
      conv => rhs; rw [← List.map_id s.data.toList]
      exact List.map_congr_left fun a _ => by simp
    rw [h1]
  · obtain ⟨a, _, rfl⟩ := List.mem_map.1 hc
    exact a.toNat_lt

theorem ofCV_ok (ρ : Rho) {v : Value} {c : CV} (h : ofCV v = some c) : CR ρ c v := by
  unfold ofCV at h
  split at h <;> cases h <;> try rfl
  exact ⟨(strV_back _).1.symm, (strV_back _).2⟩

theorem ofCVs_ok (ρ : Rho) : ∀ {l : List Value} {cs : List CV}, ofCVs l = some cs → All2 (CR ρ) cs l
  | [], cs, h => by simp [ofCVs] at h; subst h; trivial
  | v :: r, cs, h => by
    unfold ofCVs at h
    split at h
    · rename_i c l h1 h2
      cases h
      exact ⟨ofCV_ok ρ h1, ofCVs_ok ρ h2⟩
    · cases h

theorem ofV_ok (ρ : Rho) (v : Value) : AR ρ (ofV v) v := by
  unfold ofV
  split
  · split
    · rename_i cs l h
      exact ⟨_, rfl, ofCVs_ok ρ h⟩
    · trivial
  · split
    · rename_i vs l h
      have h1 := ofCVs_ok ρ h
      refine ⟨_, rfl, ?_⟩
      have : ∀ (l : List CV) (m : List Value), All2 (CR ρ) l m → All2 (TR ρ) (l.map .c) m := fun l => by
        induction l with
        | nil => intro m hm; cases m <;> exact hm
        | cons a l ih => intro m hm; cases m with
          | nil => exact hm
          | cons b m => exact ⟨hm.1, ih m hm.2⟩
      exact this _ _ h1
    · trivial
  · split
    · rename_i c h
      exact ofCV_ok ρ h
    · trivial

theorem UInt8_back {c : Nat} (h : c < 256) : (UInt8.ofNat c).toNat = c := by
  rw [UInt8.toNat_ofNat']; exact Nat.mod_eq_of_lt h

theorem toCV_ok {ρ : Rho} {c : CV} {v x : Value} (h : toCV c = some v) (hx : CR ρ c x) : x = v := by
  unfold toCV at h
  split at h <;> cases h <;> first | exact hx | exact hx.1

theorem toCVs_ok {ρ : Rho} : ∀ {l : List CV} {vs xs : List Value}, toCVs l = some vs → All2 (CR ρ) l xs → xs = vs
  | [], vs, xs, h, hx => by
    simp [toCVs] at h; subst h
    cases xs with
    | nil => rfl
    | cons _ _ => exact hx.elim
  | c :: l, vs, xs, h, hx => by
    unfold toCVs at h
    split at h
    · rename_i v r h1 h2
      cases h
      cases xs with
      | nil => exact hx.elim
      | cons x xs => rw [toCV_ok h1 hx.1, toCVs_ok h2 hx.2]
    · cases h

theorem toAV_ok {ρ : Rho} {a : AV} {v x : Value} (h : toAV a = some v) (hx : AR ρ a x) : x = v := by
  cases a with
  | c c => exact toCV_ok h hx
  | agg l =>
    simp only [toAV] at h
    split at h
    · rename_i vs h1
      cases h
      obtain ⟨ys, rfl, hy⟩ := hx
      have := toCVs_ok h1 hy
      rw [← this]
    · cases h
  | tup l => cases h
  | top => cases h

/-! ### Operands -/

theorem ENV.eval {N D : Nat} {e : NT D AV} {a : Act} (he : ENV ρ N D e a.tmps) (hg : ∀ g, g < glb P → ρ g = some ⟨g, 0, 0⟩) (x : Operand) : AR ρ ((evO P x).f e) (a.eval x) := by
  cases x with
  | tmp t =>
    show AR ρ ((iff (Nat.ble (Nat.succ t) (capN D)) (getN D t) ⟨fun _ => undefA⟩ : Fn1 (NT D AV) AV).f e) (a.tmps.getD t undef)
    rw [iff_ble]
    by_cases h : Nat.succ t ≤ capN D
    · rw [if_pos h]; exact he.get t h
    · rw [if_neg h, Array.getD_eq_getD_getElem?, Array.getElem?_eq_none (by rw [he.size]; exact Nat.le_trans he.cap (Nat.le_of_not_lt h))]
      exact AR.undef ρ
  | const v => exact ofV_ok ρ v
  | global g =>
    show AR ρ ((iff (Nat.ble (Nat.succ g) P.globals.size) ⟨fun _ => .c (.ref (.ptr g 0))⟩ ⟨fun _ => .top⟩ : Fn1 (NT D AV) AV).f e) (.pointer (some ⟨g, 0, none⟩))
    rw [iff_ble]
    by_cases h : Nat.succ g ≤ P.globals.size
    · rw [if_pos h]
      exact ⟨_, hg g h, rfl⟩
    · rw [if_neg h]; trivial
  | func f => exact ⟨#[], #[], rfl, trivial, trivial⟩

/-! ### Operations -/

def Runs (P : Program) (o : Oper) (a : Act) (w : World) (x : Value) (w' : World) : Prop :=
  (execOp a.eval o).run P w = .ok (.value x) w' ∨ (x = undef ∧ (execOp a.eval o).run P w = .ok .skip w')

/-- What has become of an operation. -/
structure Done (P : Program) (B0 : Nat) (A : Nat → Prop) (ρ : Rho) (m : M) (w : World) (v : AV) (m' : M) (x : Value) (w' : World) (ρ' : Rho) : Prop where
  val : AR ρ' v x
  post : Post P B0 A (fun id => m'.wm ≤ id) ρ m w ρ' m' w'
  rm : m'.rm ≤ m.rm
  wm : m'.wm ≤ m.wm
  dfs : m'.dfs = m.dfs

theorem Done.pure (hw : WF P m) (h : Rel P B0 A ρ m.H w) {v : AV} {x : Value} (hv : AR ρ v x) : Done P B0 A ρ m w v m x w ρ :=
  ⟨hv, Post.refl hw h, Nat.le_refl _, Nat.le_refl _, rfl⟩

/-- An operation that does as it is worked out. -/
def OpOK (P : Program) (o : Oper) {D : Nat} (f : OpF D) : Prop :=
  ∀ (c : Ctx) (e : NT D AV) (m : M) (v : AV) (m' : M), f.f c e m = .ok v m' →
    ∀ (B0 : Nat) (A : Nat → Prop) (N : Nat) (ρ : Rho) (a : Act) (w : World), WF P m → In A m m' → Rel P B0 A ρ m.H w → ENV ρ N D e a.tmps → Fresh ρ m m' →
      ∃ x w' ρ', Runs P o a w x w' ∧ Done P B0 A ρ m w v m' x w' ρ'

/-- Of what was there, one object alone is looked at. -/
structure In1 (A : Nat → Prop) (m m' : M) : Prop where
  one : m'.rm < m.nx → A m'.rm
  new : ∀ id, m.nx ≤ id → A id

structure Done1 (P : Program) (B0 : Nat) (A : Nat → Prop) (ρ : Rho) (m : M) (w : World) (v : AV) (m' : M) (x : Value) (w' : World) (ρ' : Rho) : Prop where
  val : AR ρ' v x
  post : Post P B0 A (fun id => id = m'.wm) ρ m w ρ' m' w'
  dfs : m'.dfs = m.dfs

/-- An operation that looks at one object alone, and does as it is worked out. -/
def OpOK1 (P : Program) (o : Oper) {D : Nat} (f : OpF D) : Prop :=
  ∀ (c : Ctx) (e : NT D AV) (m : M) (v : AV) (m' : M), m.rm = inf → m.wm = inf → f.f c e m = .ok v m' →
    ∀ (B0 : Nat) (A : Nat → Prop) (N : Nat) (ρ : Rho) (a : Act) (w : World), WF P m → In1 A m m' → Rel P B0 A ρ m.H w → ENV ρ N D e a.tmps → Fresh ρ m m' →
      ∃ x w' ρ', Runs P o a w x w' ∧ Done1 P B0 A ρ m w v m' x w' ρ'

theorem OpOK1.no {o : Oper} {D k : Nat} : OpOK1 P o (noOp (D := D) k) := fun _ _ _ _ _ _ _ h => by cases h

theorem OpOK.no {o : Oper} {D k : Nat} : OpOK P o (noOp (D := D) k) := fun _ _ _ _ _ h => by cases h

end Go.CE
