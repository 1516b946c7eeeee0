/- All code. No program is named. -/
import Derived.Test.YtjaklcmadkpmdaaDoorCeT
noncomputable section
namespace Go.CE
open Go

variable {P : Program}

theorem den_okL (hdraw : ∀ (id : Nat) (ops : Array Oper) (N D : Nat), CodeOK P (.region id ops true) N (den P N (.region id ops true) (D := D)).run) :
    ∀ (c : Code) (N D : Nat), CodeOK P c N (den P N c (D := D)).run ∧ LabOK P c N (den P N c (D := D)).lab
  | .skip, _N, _D => ⟨skip_ok, noLab_ok fun _l => rfl⟩
  | .region id ops false, N, _D => ⟨region_ok id ops N, noLab_ok fun _l => rfl⟩
  | .region id ops true, N, D => ⟨hdraw id ops N D, noLab_ok fun _l => rfl⟩
  | .seq a b, N, D => ⟨seq_ok (den_okL hdraw a N D).1 (den_okL hdraw b N D).1, seqLab_ok (den_okL hdraw a N D).2 (den_okL hdraw b N D).2 (den_okL hdraw b N D).1⟩
  | .cond _x a b, N, D => ⟨cond_ok (den_okL hdraw a N D).1 (den_okL hdraw b N D).1, noLab_ok fun _l => rfl⟩
  | .block _id b, N, D => ⟨block_ok (den_okL hdraw b N D).1, noLab_ok fun _l => rfl⟩
  | .loop b, N, D => ⟨loop_ok (den_okL hdraw b N D).1, noLab_ok fun _l => rfl⟩
  | .rangeFunc _f _ps _as _bd, _N, _D => ⟨range_ok, noLab_ok fun _l => rfl⟩
  | .exit _id, _N, _D => ⟨exit_ok, noLab_ok fun _l => rfl⟩
  | .scope b, N, D => ⟨scope_ok (den_okL hdraw b N D).1 (den_okL hdraw b N D).2, noLab_ok fun _l => rfl⟩
  | .label _l, _N, _D => ⟨label_ok, labelLab_ok⟩
  | .goto _l, _N, _D => ⟨goto_ok, noLab_ok fun _l => rfl⟩
  | .ret, _N, _D => ⟨ret_ok, noLab_ok fun _l => rfl⟩
  | .refuse _w, _N, _D => ⟨fail_ok, noLab_ok fun _l => rfl⟩

end Go.CE
