/- The walk of the statement, whatever the three. -/
import Derived.Test.YtfjpbedcopdglaaGreatDoorFirC000
import Derived.Test.YtfjpbedcopdglaaGreatDoorFirC100
import Derived.Test.YtfjpbedcopdglaaGreatDoorFirC101
import Derived.Test.YtfjpbedcopdglaaGreatDoorFirC110
import Derived.Test.YtfjpbedcopdglaaGreatDoorFirC111
namespace Go.Proofs.YtfjpbedcopdglaaGreatDoor
open Go.RowKit

theorem brackets_walk (x y z : Fi) (hx : Fi.ok x) (hy : Fi.ok y) (hz : Fi.ok z) (W : World)
    (haw : ∀ w, Below W.heap.size W w → Calls Tryz.prog 11 #[] w fun e w' => e = .returned (.bool true) ∧ Below w.heap.size w w') :
    Calls Tryz.prog 4 #[fv x.1 x.2, fv y.1 y.2, fv z.1 z.2] W fun e w' => e = .returned (.bool true) ∧ Below W.heap.size W w' := by
  cases hp : Fi.sub x y
  · exact walk000 (x).1 (y).1 (z).1 (Fi.seq x y).1 (Fi.seq (Fi.seq x y) z).1 (Fi.seq y z).1 (Fi.cho x y).1 (Fi.cho (Fi.cho x y) z).1 (Fi.cho y z).1 (x).2 (y).2 (z).2 (Fi.seq x y).2 (Fi.seq (Fi.seq x y) z).2 (Fi.seq y z).2 (Fi.cho x y).2 (Fi.cho (Fi.cho x y) z).2 (Fi.cho y z).2 (Fi.sub y z) W haw
                (Lib.hid (seq_any x y hx hy))
                (Lib.hid (seq_any _ z (Fi.ok_seq hx hy) hz))
                (Lib.hid (seq_any y z hy hz))
                (Lib.hid (fun w => by have h := seq_any x (Fi.seq y z) hx (Fi.ok_seq hy hz) w; rw [← Fi.seq_as] at h; exact h))
                (Lib.hid (choice_any x y hx hy))
                (Lib.hid (choice_any _ z (Fi.ok_cho hx hy) hz))
                (Lib.hid (choice_any y z hy hz))
                (Lib.hid (fun w => by have h := choice_any x (Fi.cho y z) hx (Fi.ok_cho hy hz) w; rw [← Fi.cho_as] at h; exact h))
                (Lib.hid (fun w => by have h := choice_any y x hy hx w; rw [Fi.cho_co] at h; exact h))
                (Lib.hid (fun w => by have h := seq_any Fi.free x S4.ok_nil hx w; rw [Fi.free_seq] at h; exact h))
                (Lib.hid (fun w => by have h := seq_any x Fi.free hx S4.ok_nil w; rw [Fi.seq_free] at h; exact h))
                (Lib.hid (fun w => by have h := sub_any x y hx hy w; rw [hp] at h; exact h))
                (Lib.hid (sub_any y z hy hz))
                (Lib.hid (fun w => by have h := sub_any x x hx hx w; rw [Fi.sub_refl] at h; exact h))
                (Lib.hid (fun w => by have h := sub_any x (Fi.cho x y) hx (Fi.ok_cho hx hy) w; rw [Fi.sub_cho] at h; exact h))
  · cases hr : Fi.sub y x
    · cases hq : Fi.sub y z
      · exact walk100 (x).1 (y).1 (z).1 (Fi.seq x y).1 (Fi.seq (Fi.seq x y) z).1 (Fi.seq y z).1 (Fi.seq x z).1 (Fi.cho x y).1 (Fi.cho (Fi.cho x y) z).1 (Fi.cho y z).1 (x).2 (y).2 (z).2 (Fi.seq x y).2 (Fi.seq (Fi.seq x y) z).2 (Fi.seq y z).2 (Fi.seq x z).2 (Fi.cho x y).2 (Fi.cho (Fi.cho x y) z).2 (Fi.cho y z).2 W haw
                (Lib.hid (seq_any x y hx hy))
                (Lib.hid (seq_any _ z (Fi.ok_seq hx hy) hz))
                (Lib.hid (seq_any y z hy hz))
                (Lib.hid (fun w => by have h := seq_any x (Fi.seq y z) hx (Fi.ok_seq hy hz) w; rw [← Fi.seq_as] at h; exact h))
                (Lib.hid (choice_any x y hx hy))
                (Lib.hid (choice_any _ z (Fi.ok_cho hx hy) hz))
                (Lib.hid (choice_any y z hy hz))
                (Lib.hid (fun w => by have h := choice_any x (Fi.cho y z) hx (Fi.ok_cho hy hz) w; rw [← Fi.cho_as] at h; exact h))
                (Lib.hid (fun w => by have h := choice_any y x hy hx w; rw [Fi.cho_co] at h; exact h))
                (Lib.hid (fun w => by have h := seq_any Fi.free x S4.ok_nil hx w; rw [Fi.free_seq] at h; exact h))
                (Lib.hid (fun w => by have h := seq_any x Fi.free hx S4.ok_nil w; rw [Fi.seq_free] at h; exact h))
                (Lib.hid (fun w => by have h := sub_any x y hx hy w; rw [hp] at h; exact h))
                (Lib.hid (fun w => by have h := sub_any y z hy hz w; rw [hq] at h; exact h))
                (Lib.hid (fun w => by have h := sub_any x x hx hx w; rw [Fi.sub_refl] at h; exact h))
                (Lib.hid (fun w => by have h := sub_any y x hy hx w; rw [hr] at h; exact h))
                (Lib.hid (fun w => by have h := sub_any x (Fi.cho x y) hx (Fi.ok_cho hx hy) w; rw [Fi.sub_cho] at h; exact h))
                (Lib.hid (seq_any x z hx hz))
                (Lib.hid (fun w => by have h := sub_any (Fi.seq x z) (Fi.seq y z) (Fi.ok_seq hx hz) (Fi.ok_seq hy hz) w; rw [Fi.sub_seq z hp] at h; exact h))
      · exact walk110 (x).1 (y).1 (z).1 (Fi.seq x y).1 (Fi.seq (Fi.seq x y) z).1 (Fi.seq y z).1 (Fi.seq x z).1 (Fi.cho x y).1 (Fi.cho (Fi.cho x y) z).1 (Fi.cho y z).1 (x).2 (y).2 (z).2 (Fi.seq x y).2 (Fi.seq (Fi.seq x y) z).2 (Fi.seq y z).2 (Fi.seq x z).2 (Fi.cho x y).2 (Fi.cho (Fi.cho x y) z).2 (Fi.cho y z).2 W haw
                (Lib.hid (seq_any x y hx hy))
                (Lib.hid (seq_any _ z (Fi.ok_seq hx hy) hz))
                (Lib.hid (seq_any y z hy hz))
                (Lib.hid (fun w => by have h := seq_any x (Fi.seq y z) hx (Fi.ok_seq hy hz) w; rw [← Fi.seq_as] at h; exact h))
                (Lib.hid (choice_any x y hx hy))
                (Lib.hid (choice_any _ z (Fi.ok_cho hx hy) hz))
                (Lib.hid (choice_any y z hy hz))
                (Lib.hid (fun w => by have h := choice_any x (Fi.cho y z) hx (Fi.ok_cho hy hz) w; rw [← Fi.cho_as] at h; exact h))
                (Lib.hid (fun w => by have h := choice_any y x hy hx w; rw [Fi.cho_co] at h; exact h))
                (Lib.hid (fun w => by have h := seq_any Fi.free x S4.ok_nil hx w; rw [Fi.free_seq] at h; exact h))
                (Lib.hid (fun w => by have h := seq_any x Fi.free hx S4.ok_nil w; rw [Fi.seq_free] at h; exact h))
                (Lib.hid (fun w => by have h := sub_any x y hx hy w; rw [hp] at h; exact h))
                (Lib.hid (fun w => by have h := sub_any y z hy hz w; rw [hq] at h; exact h))
                (Lib.hid (fun w => by have h := sub_any x x hx hx w; rw [Fi.sub_refl] at h; exact h))
                (Lib.hid (fun w => by have h := sub_any x z hx hz w; rw [Fi.sub_trans hp hq] at h; exact h))
                (Lib.hid (fun w => by have h := sub_any y x hy hx w; rw [hr] at h; exact h))
                (Lib.hid (fun w => by have h := sub_any x (Fi.cho x y) hx (Fi.ok_cho hx hy) w; rw [Fi.sub_cho] at h; exact h))
                (Lib.hid (seq_any x z hx hz))
                (Lib.hid (fun w => by have h := sub_any (Fi.seq x z) (Fi.seq y z) (Fi.ok_seq hx hz) (Fi.ok_seq hy hz) w; rw [Fi.sub_seq z hp] at h; exact h))
    · obtain rfl := Fi.sub_anti hp hr
      cases hq : Fi.sub x z
      · exact walk101 (x).1 (z).1 (Fi.seq x x).1 (Fi.seq (Fi.seq x x) z).1 (Fi.seq x z).1 (Fi.seq x z).1 (Fi.cho x x).1 (Fi.cho (Fi.cho x x) z).1 (Fi.cho x z).1 (x).2 (z).2 (Fi.seq x x).2 (Fi.seq (Fi.seq x x) z).2 (Fi.seq x z).2 (Fi.seq x z).2 (Fi.cho x x).2 (Fi.cho (Fi.cho x x) z).2 (Fi.cho x z).2 W haw
                (Lib.hid (seq_any x x hx hx))
                (Lib.hid (seq_any _ z (Fi.ok_seq hx hx) hz))
                (Lib.hid (seq_any x z hx hz))
                (Lib.hid (fun w => by have h := seq_any x (Fi.seq x z) hx (Fi.ok_seq hx hz) w; rw [← Fi.seq_as] at h; exact h))
                (Lib.hid (choice_any x x hx hx))
                (Lib.hid (choice_any _ z (Fi.ok_cho hx hx) hz))
                (Lib.hid (choice_any x z hx hz))
                (Lib.hid (fun w => by have h := choice_any x (Fi.cho x z) hx (Fi.ok_cho hx hz) w; rw [← Fi.cho_as] at h; exact h))
                (Lib.hid (fun w => by have h := choice_any x x hx hx w; rw [Fi.cho_co] at h; exact h))
                (Lib.hid (fun w => by have h := seq_any Fi.free x S4.ok_nil hx w; rw [Fi.free_seq] at h; exact h))
                (Lib.hid (fun w => by have h := seq_any x Fi.free hx S4.ok_nil w; rw [Fi.seq_free] at h; exact h))
                (Lib.hid (fun w => by have h := sub_any x x hx hx w; rw [hp] at h; exact h))
                (Lib.hid (fun w => by have h := sub_any x z hx hz w; rw [hq] at h; exact h))
                (Lib.hid (fun w => by have h := sub_any x x hx hx w; rw [Fi.sub_refl] at h; exact h))
                (Lib.hid (fun w => by have h := sub_any x x hx hx w; rw [hp] at h; exact h))
                (Lib.hid (fun w => by have h := sub_any x (Fi.cho x x) hx (Fi.ok_cho hx hx) w; rw [Fi.sub_cho] at h; exact h))
                (Lib.hid (seq_any x z hx hz))
                (Lib.hid (fun w => by have h := sub_any (Fi.seq x z) (Fi.seq x z) (Fi.ok_seq hx hz) (Fi.ok_seq hx hz) w; rw [Fi.sub_seq z hp] at h; exact h))
      · exact walk111 (x).1 (z).1 (Fi.seq x x).1 (Fi.seq (Fi.seq x x) z).1 (Fi.seq x z).1 (Fi.seq x z).1 (Fi.cho x x).1 (Fi.cho (Fi.cho x x) z).1 (Fi.cho x z).1 (x).2 (z).2 (Fi.seq x x).2 (Fi.seq (Fi.seq x x) z).2 (Fi.seq x z).2 (Fi.seq x z).2 (Fi.cho x x).2 (Fi.cho (Fi.cho x x) z).2 (Fi.cho x z).2 W haw
                (Lib.hid (seq_any x x hx hx))
                (Lib.hid (seq_any _ z (Fi.ok_seq hx hx) hz))
                (Lib.hid (seq_any x z hx hz))
                (Lib.hid (fun w => by have h := seq_any x (Fi.seq x z) hx (Fi.ok_seq hx hz) w; rw [← Fi.seq_as] at h; exact h))
                (Lib.hid (choice_any x x hx hx))
                (Lib.hid (choice_any _ z (Fi.ok_cho hx hx) hz))
                (Lib.hid (choice_any x z hx hz))
                (Lib.hid (fun w => by have h := choice_any x (Fi.cho x z) hx (Fi.ok_cho hx hz) w; rw [← Fi.cho_as] at h; exact h))
                (Lib.hid (fun w => by have h := choice_any x x hx hx w; rw [Fi.cho_co] at h; exact h))
                (Lib.hid (fun w => by have h := seq_any Fi.free x S4.ok_nil hx w; rw [Fi.free_seq] at h; exact h))
                (Lib.hid (fun w => by have h := seq_any x Fi.free hx S4.ok_nil w; rw [Fi.seq_free] at h; exact h))
                (Lib.hid (fun w => by have h := sub_any x x hx hx w; rw [hp] at h; exact h))
                (Lib.hid (fun w => by have h := sub_any x z hx hz w; rw [hq] at h; exact h))
                (Lib.hid (fun w => by have h := sub_any x x hx hx w; rw [Fi.sub_refl] at h; exact h))
                (Lib.hid (fun w => by have h := sub_any x z hx hz w; rw [Fi.sub_trans hp hq] at h; exact h))
                (Lib.hid (fun w => by have h := sub_any x x hx hx w; rw [hp] at h; exact h))
                (Lib.hid (fun w => by have h := sub_any x (Fi.cho x x) hx (Fi.ok_cho hx hx) w; rw [Fi.sub_cho] at h; exact h))
                (Lib.hid (seq_any x z hx hz))
                (Lib.hid (fun w => by have h := sub_any (Fi.seq x z) (Fi.seq x z) (Fi.ok_seq hx hz) (Fi.ok_seq hx hz) w; rw [Fi.sub_seq z hp] at h; exact h))
end Go.Proofs.YtfjpbedcopdglaaGreatDoor
