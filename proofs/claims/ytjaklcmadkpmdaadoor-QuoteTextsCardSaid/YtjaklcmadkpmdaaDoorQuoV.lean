/- The reader: one sign. -/
import Derived.Deep.RegionHeld3
import Derived.KernelRfl
import Derived.Test.YtjaklcmadkpmdaaDoorQuoG
import Derived.Test.YtjaklcmadkpmdaaDoorQuoU
namespace Go.Proofs.YtjaklcmadkpmdaaDoor
open Go Go.RowKit Go.Shelf
set_option linter.unusedSimpArgs false
set_option linter.unusedVariables false

theorem findP_lt : ∀ (l : List (Nat × Nat)) (c v : Nat), (∀ p ∈ l, p.2 < 256) → findP l c = some v → v < 256
  | [], c, v, _, h => by cases h
  | p :: r, c, v, hl, h => by
    unfold findP at h
    split at h
    · cases h; exact hl p (List.mem_cons_self ..)
    · exact findP_lt r c v (fun q hq => hl q (List.mem_cons_of_mem _ hq)) h
theorem behL_lt (cls : Bool) : ∀ p ∈ behL cls, p.2 < 256 := by cases cls <;> decide

/-- One sign, in all its cases. -/
theorem reader_sign (cls : Bool) {W0 W : World} (hI : Inv W0) (hb0 : Below W0.heap.size W0 W) (b : Nat) (hb : W0.heap.size ≤ b) (r : Rd) (h : RdAt W b r) (hs : r.text.size ≤ 1000000000) (hr : r.bare = bareB cls) (mb : Nat) (hm : r.mp = .map (some mb)) (hmb : mb ≠ b) (hMA : MapAt W mb (behL cls)) :
    Calls Tryd.prog 33 #[.pointer (some ⟨b, 0, none⟩)] W fun e w' => e = .returned (.int .u8 (r.sign cls).1.toNat) ∧ RdAt w' b (r.sign cls).2 ∧ Only b W w' := by
  unfold Rd.sign
  split
  · rename_i hc
    exact sign_none W b r h hc
  · rename_i c hc
    split
    · rename_i hbg
      exact sign_bad cls hI hb0 b hb r h hs hr hc hbg
    · rename_i hbg
      have hbg : beginsB cls c = true := by simpa using hbg
      split
      · rename_i h92
        exact sign_bare cls hI hb0 b hb r h hs hr hc hbg h92
      · rename_i h92
        have h92 : c.toNat = 92 := by simpa using h92
        split
        · rename_i hn
          exact sign_hex cls hI hb0 b hb r h hs hr hc hbg h92 hn
        · rename_i hn
          have hn : r.up.next 120 = false := by simpa using hn
          split
          · rename_i hd
            exact sign_end cls hI hb0 b hb r h hs hr hc hbg h92 hn hd
          · rename_i d hd
            split
            · rename_i v hf
              have hv := findP_lt _ _ _ (behL_lt cls) hf
              have e : (UInt8.ofNat v).toNat = v := by rw [UInt8.toNat_ofNat']; omega
              dsimp only
              rw [e]
              exact sign_found cls hI hb0 b hb r h hs hr hc hbg mb hm hmb hMA h92 hn hd hf
            · rename_i hf
              exact sign_miss cls hI hb0 b hb r h hs hr hc hbg mb hm hmb hMA h92 hn hd hf

end Go.Proofs.YtjaklcmadkpmdaaDoor
