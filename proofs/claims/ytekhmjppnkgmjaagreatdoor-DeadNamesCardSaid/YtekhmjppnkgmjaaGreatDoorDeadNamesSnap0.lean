/- DeadNames: what the kernel works out, in segments. -/
import Derived.Test.YtekhmjppnkgmjaaGreatDoorDeadNamesCut
namespace Go.Proofs.YtekhmjppnkgmjaaGreatDoor.deadNames
open Go

noncomputable section
def s0 : CE.Snap := ⟨List.replicate 347 CE.undefA, gl, 10, []⟩

def s1 : CE.Snap := ⟨[(.c (.bool .false)), (.tup []), (.tup []), (.tup []), (.tup []), (.tup []), (.tup []), (.tup []), (.tup []), (.tup []), (.tup []), (.tup []), (.tup []), (.tup []), (.tup []), (.tup []), (.tup []), (.tup []), (.tup []), (.tup []), (.tup []), (.tup []), (.tup []), (.tup []), (.tup []), (.tup []), (.tup []), (.tup []), (.tup []), (.tup []), (.tup []), (.tup []), (.tup []), (.tup []), (.tup []), (.tup []), (.tup []), (.tup []), (.tup []), (.tup []), (.tup []), (.tup []), (.tup []), (.tup []), (.tup []), (.tup []), (.tup []), (.tup []), (.tup []), (.tup []), (.tup []), (.tup []), (.tup []), (.tup []), (.tup []), (.tup []), (.tup []), (.tup []), (.tup []), (.tup []), (.tup []), (.tup []), (.tup []), (.tup []), (.tup []), (.tup []), (.tup []), (.tup []), (.tup []), (.tup []), (.tup []), (.tup []), (.tup []), (.tup []), (.tup []), (.tup []), (.tup []), (.tup []), (.tup []), (.tup []), (.tup []), (.tup []), (.tup []), (.tup []), (.tup []), (.tup []), (.tup []), (.tup []), (.tup []), (.tup []), (.tup []), (.tup []), (.tup []), (.tup []), (.tup []), (.tup []), (.tup []), (.tup []), (.tup []), (.tup []), (.tup []), (.tup []), (.tup []), (.tup []), (.tup []), (.tup []), (.tup []), (.tup []), (.tup []), (.tup []), (.tup []), (.tup []), (.tup []), (.tup []), (.tup []), (.tup []), (.tup []), (.tup []), (.tup []), (.tup []), (.tup []), (.tup []), (.tup []), (.tup []), (.tup []), (.tup []), (.tup []), (.tup []), (.tup []), (.tup []), (.tup []), (.tup []), (.tup []), (.tup []), (.tup []), (.tup []), (.tup []), (.tup []), (.tup []), (.tup []), (.tup []), (.tup []), (.tup []), (.tup []), (.tup []), (.tup []), (.tup []), (.tup []), (.tup []), (.tup []), (.tup []), (.tup []), (.tup []), (.tup []), (.tup []), (.tup []), (.tup []), (.tup []), (.tup []), (.tup []), (.tup []), (.tup []), (.tup []), (.tup []), (.tup []), (.tup []), (.tup []), (.tup []), (.tup []), (.tup []), (.tup []), (.tup []), (.tup []), (.tup []), (.tup []), (.tup []), (.tup []), (.tup []), (.tup []), (.tup []), (.tup []), (.tup []), (.tup []), (.tup []), (.tup []), (.tup []), (.tup []), (.tup []), (.tup []), (.tup []), (.tup []), (.tup []), (.tup []), (.tup []), (.tup []), (.tup []), (.tup []), (.tup []), (.tup []), (.tup []), (.tup []), (.tup []), (.tup []), (.tup []), (.tup []), (.tup []), (.tup []), (.tup []), (.tup []), (.tup []), (.tup []), (.tup []), (.tup []), (.tup []), (.tup []), (.tup []), (.tup []), (.tup []), (.tup []), (.tup []), (.tup []), (.tup []), (.tup []), (.tup []), (.tup []), (.tup []), (.tup []), (.tup []), (.tup []), (.tup []), (.tup []), (.tup []), (.tup []), (.tup []), (.tup []), (.tup []), (.tup []), (.tup []), (.tup []), (.tup []), (.tup []), (.tup []), (.tup []), (.tup []), (.tup []), (.tup []), (.tup []), (.tup []), (.tup []), (.tup []), (.tup []), (.tup []), (.tup []), (.tup []), (.tup []), (.tup []), (.tup []), (.tup []), (.tup []), (.tup []), (.tup []), (.tup []), (.tup []), (.tup []), (.tup []), (.tup []), (.tup []), (.tup []), (.tup []), (.tup []), (.tup []), (.tup []), (.tup []), (.tup []), (.tup []), (.tup []), (.tup []), (.tup []), (.tup []), (.tup []), (.tup []), (.tup []), (.tup []), (.tup []), (.tup []), (.tup []), (.tup []), (.tup []), (.tup []), (.tup []), (.tup []), (.tup []), (.tup []), (.tup []), (.tup []), (.tup []), (.tup []), (.tup []), (.tup []), (.tup []), (.tup []), (.tup []), (.tup []), (.tup []), (.tup []), (.tup []), (.tup []), (.tup []), (.tup []), (.tup []), (.tup []), (.tup []), (.tup []), (.tup []), (.tup []), (.tup []), (.tup []), (.tup []), (.tup []), (.tup []), (.tup []), (.tup []), (.tup []), (.tup []), (.tup []), (.tup []), (.tup []), (.tup []), (.tup []), (.tup []), (.tup []), (.tup []), (.tup []), (.tup []), (.tup []), (.tup []), (.tup []), (.tup []), (.tup []), (.tup []), (.tup []), (.tup []), (.tup []), (.tup []), (.tup []), (.tup []), (.tup [])], gl ++ [], 10, []⟩

def s2 : CE.Snap := ⟨CE.setE s1.es [(1, (.c (.ref (.ptr 23 0)))),
  (2, (.c (.ref (.ptr 24 0)))),
  (3, (.c (.ref (.ptr 25 0)))),
  (26, (.agg [(.ref (.slc 13 0 1 1)), (.int .i64 (.ofNat 0))])),
  (27, (.agg [(.ref (.slc 17 0 1 1)), (.int .i64 (.ofNat 0))])),
  (28, (.agg [(.int .u64 (.ofNat 0)), (.int .u64 (.ofNat 0)), (.int .u64 (.ofNat 0)), (.int .u64 (.ofNat 0))])),
  (29, (.agg [(.ref (.slc 22 0 1 1)), (.int .i64 (.ofNat 0))]))], CE.dropL [] s1.L ++ [(13, (.row 49 9 9 .false 0 0 (CE.lt 0 [(.agg [(.int .u8 (.ofNat 2)), (.int .u64 (.ofNat 0)), (.int .u64 (.ofNat 0)), (.int .u64 (.ofNat 0)), (.int .u64 (.ofNat 0)), (.str [120]), (.int .i64 (.ofNat 0)), (.int .i64 (.ofNat 0)), (.ref .nils)])]))),
  (17, (.row 49 9 9 .false 0 0 (CE.lt 0 [(.agg [(.int .u8 (.ofNat 2)), (.int .u64 (.ofNat 0)), (.int .u64 (.ofNat 0)), (.int .u64 (.ofNat 0)), (.int .u64 (.ofNat 0)), (.str [121]), (.int .i64 (.ofNat 0)), (.int .i64 (.ofNat 0)), (.ref .nils)])]))),
  (22, (.row 49 9 9 .false 0 0 (CE.lt 0 [(.agg [(.int .u8 (.ofNat 1)), (.int .u64 (.ofNat 0)), (.int .u64 (.ofNat 0)), (.int .u64 (.ofNat 0)), (.int .u64 (.ofNat 0)), (.str []), (.int .i64 (.ofNat 0)), (.int .i64 (.ofNat 0)), (.ref .nils)])]))),
  (23, (.row 34 2 2 .false 0 0 (CE.lt 0 [(.agg [(.ref (.slc 13 0 1 1)), (.int .i64 (.ofNat 0))])]))),
  (24, (.row 34 2 2 .false 0 0 (CE.lt 0 [(.agg [(.ref (.slc 17 0 1 1)), (.int .i64 (.ofNat 0))])]))),
  (25, (.row 34 2 2 .false 0 0 (CE.lt 0 [(.agg [(.ref (.slc 22 0 1 1)), (.int .i64 (.ofNat 0))])])))], 26, []⟩

def s3 : CE.Snap := ⟨CE.setE s2.es [(30, (.c (.bool .true))),
  (31, (.c (.bool .false)))], CE.dropL [] s2.L ++ [], 5664, []⟩

def s4 : CE.Snap := ⟨CE.setE s3.es [(4, (.c (.ref (.ptr 5763 0)))),
  (32, (.agg [(.ref (.slc 5667 0 1 1)), (.int .i64 (.ofNat 0))])),
  (33, (.agg [(.ref (.slc 13 0 1 1)), (.int .i64 (.ofNat 0))])),
  (34, (.agg [(.ref (.slc 22 0 1 1)), (.int .i64 (.ofNat 0))])),
  (35, (.c (.ref (.slc 5668 0 3 3)))),
  (36, (.agg [(.ref (.slc 5761 0 4 4)), (.int .i64 (.ofNat 3))]))], CE.dropL [] s3.L ++ [(5667, (.row 49 9 9 .false 0 0 (CE.lt 0 [(.agg [(.int .u8 (.ofNat 0)), (.int .u64 (.ofNat 0)), (.int .u64 (.ofNat 0)), (.int .u64 (.ofNat 0)), (.int .u64 (.ofNat 0)), (.str []), (.int .i64 (.ofNat 0)), (.int .i64 (.ofNat 0)), (.ref .nils)])]))),
  (5668, (.row 34 6 2 .false 0 1 (CE.lt 1 [(.agg [(.ref (.slc 5667 0 1 1)), (.int .i64 (.ofNat 0))]), (.agg [(.ref (.slc 13 0 1 1)), (.int .i64 (.ofNat 0))]), (.agg [(.ref (.slc 22 0 1 1)), (.int .i64 (.ofNat 0))])]))),
  (5759, (.row 3 3 1 .true 1 1 (CE.lt 1 [(.c (.int .i64 (.ofNat 0))), (.c (.int .i64 (.ofNat 1))), (.c (.int .i64 (.ofNat 2)))]))),
  (5761, (.row 49 36 9 .true 1 1 (CE.lt 1 [(.agg [(.int .u8 (.ofNat 0)), (.int .u64 (.ofNat 0)), (.int .u64 (.ofNat 0)), (.int .u64 (.ofNat 0)), (.int .u64 (.ofNat 0)), (.str []), (.int .i64 (.ofNat 0)), (.int .i64 (.ofNat 0)), (.ref .nils)]), (.agg [(.int .u8 (.ofNat 2)), (.int .u64 (.ofNat 0)), (.int .u64 (.ofNat 0)), (.int .u64 (.ofNat 0)), (.int .u64 (.ofNat 0)), (.str [120]), (.int .i64 (.ofNat 0)), (.int .i64 (.ofNat 0)), (.ref .nils)]), (.agg [(.int .u8 (.ofNat 1)), (.int .u64 (.ofNat 0)), (.int .u64 (.ofNat 0)), (.int .u64 (.ofNat 0)), (.int .u64 (.ofNat 0)), (.str []), (.int .i64 (.ofNat 0)), (.int .i64 (.ofNat 0)), (.ref .nils)]), (.agg [(.int .u8 (.ofNat 5)), (.int .u64 (.ofNat 0)), (.int .u64 (.ofNat 0)), (.int .u64 (.ofNat 0)), (.int .u64 (.ofNat 0)), (.str []), (.int .i64 (.ofNat 0)), (.int .i64 (.ofNat 0)), (.ref (.slc 5759 0 3 3))])]))),
  (5763, (.row 34 2 2 .false 0 0 (CE.lt 0 [(.agg [(.ref (.slc 5761 0 4 4)), (.int .i64 (.ofNat 3))])])))], 5764, []⟩

def s5 : CE.Snap := ⟨CE.setE s4.es [(5, (.c (.ref (.slc 7549 0 2 2)))),
  (37, (.agg [(.ref (.slc 5761 0 4 4)), (.int .i64 (.ofNat 3))])),
  (38, (.agg [(.ref (.slc 5766 0 1 1))])),
  (39, (.c (.ref (.slc 7549 0 2 2))))], CE.dropL [] s4.L ++ [(5766, (.row 56 3 3 .false 0 0 (CE.lt 0 [(.agg [(.str [97]), (.ref (.slc 5761 0 4 4)), (.int .i64 (.ofNat 3))])]))),
  (7549, (.row 71 10 5 .true 1 1 (CE.lt 1 [(.agg [(.int .u8 (.ofNat 2)), (.int .u8 (.ofNat 1)), (.int .i64 (.ofNat 0)), (.ref .nils), (.int .i64 (.ofNat 0))]), (.agg [(.int .u8 (.ofNat 2)), (.int .u8 (.ofNat 2)), (.int .i64 (.ofNat 0)), (.ref .nils), (.int .i64 (.ofNat 2))])])))], 7583, []⟩

def s6 : CE.Snap := ⟨CE.setE s5.es [(40, (.c (.ref (.slc 7549 0 2 2)))),
  (41, (.c (.int .i64 (.ofNat 2)))),
  (42, (.c (.bool .false))),
  (43, (.c (.bool .false))),
  (44, (.c (.ref (.slc 7549 0 2 2)))),
  (45, (.c (.ref (.ptr 7549 0)))),
  (46, (.c (.ref (.ptr 7549 1)))),
  (47, (.c (.int .u8 (.ofNat 1)))),
  (48, (.c (.bool .false))),
  (49, (.c (.bool .false))),
  (50, (.c (.bool .false))),
  (51, (.c (.ref (.slc 7549 0 2 2)))),
  (52, (.c (.ref (.ptr 7549 0)))),
  (53, (.c (.ref (.ptr 7549 4)))),
  (54, (.c (.int .i64 (.ofNat 0)))),
  (55, (.c (.bool .false))),
  (56, (.c (.bool .false))),
  (57, (.c (.bool .false))),
  (58, (.c (.ref (.slc 7549 0 2 2)))),
  (59, (.c (.ref (.ptr 7549 5)))),
  (60, (.c (.ref (.ptr 7549 6)))),
  (61, (.c (.int .u8 (.ofNat 2)))),
  (62, (.c (.bool .false))),
  (63, (.c (.bool .false))),
  (64, (.c (.bool .false))),
  (65, (.c (.ref (.slc 7549 0 2 2)))),
  (66, (.c (.ref (.ptr 7549 5)))),
  (67, (.c (.ref (.ptr 7549 9)))),
  (68, (.c (.int .i64 (.ofNat 2)))),
  (69, (.c (.bool .false))),
  (70, (.c (.bool .false))),
  (71, (.c (.bool .false))),
  (72, (.agg [(.ref (.slc 5761 0 4 4)), (.int .i64 (.ofNat 3))])),
  (73, (.agg [(.ref (.slc 7585 0 1 1))])),
  (74, (.c (.int .i64 (.ofNat 2)))),
  (75, (.c (.bool .false))),
  (76, (.c (.bool .false)))], CE.dropL [] s5.L ++ [(7585, (.row 56 3 3 .false 0 0 (CE.lt 0 [(.agg [(.str [97]), (.ref (.slc 5761 0 4 4)), (.int .i64 (.ofNat 3))])])))], 8134, []⟩

def s7 : CE.Snap := ⟨[(.c (.bool .false)), (.c (.ref (.ptr 23 0))), (.c (.ref (.ptr 24 0))), (.c (.ref (.ptr 25 0))), (.c (.ref (.ptr 5763 0))), (.c (.ref (.slc 7549 0 2 2))), (.tup []), (.tup []), (.tup []), (.tup []), (.tup []), (.tup []), (.tup []), (.tup []), (.tup []), (.tup []), (.tup []), (.tup []), (.tup []), (.tup []), (.tup []), (.tup []), (.tup []), (.tup []), (.tup []), (.tup []), (.agg [(.ref (.slc 13 0 1 1)), (.int .i64 (.ofNat 0))]), (.agg [(.ref (.slc 17 0 1 1)), (.int .i64 (.ofNat 0))]), (.agg [(.int .u64 (.ofNat 0)), (.int .u64 (.ofNat 0)), (.int .u64 (.ofNat 0)), (.int .u64 (.ofNat 0))]), (.agg [(.ref (.slc 22 0 1 1)), (.int .i64 (.ofNat 0))]), (.c (.bool .true)), (.c (.bool .false)), (.agg [(.ref (.slc 5667 0 1 1)), (.int .i64 (.ofNat 0))]), (.agg [(.ref (.slc 13 0 1 1)), (.int .i64 (.ofNat 0))]), (.agg [(.ref (.slc 22 0 1 1)), (.int .i64 (.ofNat 0))]), (.c (.ref (.slc 5668 0 3 3))), (.agg [(.ref (.slc 5761 0 4 4)), (.int .i64 (.ofNat 3))]), (.agg [(.ref (.slc 5761 0 4 4)), (.int .i64 (.ofNat 3))]), (.agg [(.ref (.slc 5766 0 1 1))]), (.c (.ref (.slc 7549 0 2 2))), (.c (.ref (.slc 7549 0 2 2))), (.c (.int .i64 (.ofNat 2))), (.c (.bool .false)), (.c (.bool .false)), (.c (.ref (.slc 7549 0 2 2))), (.c (.ref (.ptr 7549 0))), (.c (.ref (.ptr 7549 1))), (.c (.int .u8 (.ofNat 1))), (.c (.bool .false)), (.c (.bool .false)), (.c (.bool .false)), (.c (.ref (.slc 7549 0 2 2))), (.c (.ref (.ptr 7549 0))), (.c (.ref (.ptr 7549 4))), (.c (.int .i64 (.ofNat 0))), (.c (.bool .false)), (.c (.bool .false)), (.c (.bool .false)), (.c (.ref (.slc 7549 0 2 2))), (.c (.ref (.ptr 7549 5))), (.c (.ref (.ptr 7549 6))), (.c (.int .u8 (.ofNat 2))), (.c (.bool .false)), (.c (.bool .false)), (.c (.bool .false)), (.c (.ref (.slc 7549 0 2 2))), (.c (.ref (.ptr 7549 5))), (.c (.ref (.ptr 7549 9))), (.c (.int .i64 (.ofNat 2))), (.c (.bool .false)), (.c (.bool .false)), (.c (.bool .false)), (.agg [(.ref (.slc 5761 0 4 4)), (.int .i64 (.ofNat 3))]), (.agg [(.ref (.slc 7585 0 1 1))]), (.c (.int .i64 (.ofNat 2))), (.c (.bool .false)), (.c (.bool .false)), (.agg [(.ref (.slc 5761 0 4 4)), (.int .i64 (.ofNat 3))]), (.agg [(.ref (.slc 5761 0 4 4)), (.int .i64 (.ofNat 3)), (.int .u8 (.ofNat 1)), (.int .i64 (.ofNat 1)), (.bool .false)]), (.agg [(.ref (.slc 5761 0 4 4)), (.int .i64 (.ofNat 3))]), (.agg [(.ref (.slc 5761 0 4 4)), (.int .i64 (.ofNat 3)), (.int .u8 (.ofNat 1)), (.int .i64 (.ofNat 2)), (.bool .false)]), (.agg [(.ref (.slc 5761 0 4 4)), (.int .i64 (.ofNat 3))]), (.agg [(.ref (.slc 5761 0 4 4)), (.int .i64 (.ofNat 3)), (.int .u8 (.ofNat 2)), (.int .i64 (.ofNat 0)), (.bool .false)]), (.agg [(.ref (.slc 5761 0 4 4)), (.int .i64 (.ofNat 3))]), (.agg [(.ref (.slc 5761 0 4 4)), (.int .i64 (.ofNat 3)), (.int .u8 (.ofNat 3)), (.int .i64 (.ofNat 2)), (.bool .false)]), (.agg [(.ref (.slc 5761 0 4 4)), (.int .i64 (.ofNat 3))]), (.agg [(.ref (.slc 5761 0 4 4)), (.int .i64 (.ofNat 3)), (.int .u8 (.ofNat 0)), (.int .i64 (.ofNat 0)), (.bool .false)]), (.agg [(.ref (.slc 5761 0 4 4)), (.int .i64 (.ofNat 3))]), (.agg [(.ref (.slc 5761 0 4 4)), (.int .i64 (.ofNat 3)), (.int .u8 (.ofNat 4)), (.int .i64 (.ofNat 0)), (.bool .false)]), (.agg [(.ref (.slc 5761 0 4 4)), (.int .i64 (.ofNat 3))]), (.agg [(.ref (.slc 5761 0 4 4)), (.int .i64 (.ofNat 3)), (.int .u8 (.ofNat 1)), (.int .i64 (.negSucc 0)), (.bool .false)]), (.agg [(.ref (.slc 5761 0 4 4)), (.int .i64 (.ofNat 3))]), (.agg [(.ref (.slc 5761 0 4 4)), (.int .i64 (.ofNat 3)), (.int .u8 (.ofNat 2)), (.int .i64 (.ofNat 3)), (.bool .false)]), (.agg [(.ref (.slc 13 0 1 1)), (.int .i64 (.ofNat 0))]), (.agg [(.ref (.slc 22 0 1 1)), (.int .i64 (.ofNat 0))]), (.c (.ref (.slc 8134 0 2 2))), (.agg [(.ref (.slc 8199 0 3 3)), (.int .i64 (.ofNat 2))]), (.agg [(.ref (.slc 8199 0 3 3)), (.int .i64 (.ofNat 2)), (.int .u8 (.ofNat 3)), (.int .i64 (.ofNat 1)), (.bool .false)]), (.agg [(.ref (.slc 22 0 1 1)), (.int .i64 (.ofNat 0))]), (.agg [(.ref (.slc 13 0 1 1)), (.int .i64 (.ofNat 0))]), (.c (.ref (.slc 8201 0 2 2))), (.agg [(.ref (.slc 8266 0 3 3)), (.int .i64 (.ofNat 2))]), (.agg [(.ref (.slc 8266 0 3 3)), (.int .i64 (.ofNat 2)), (.int .u8 (.ofNat 3)), (.int .i64 (.ofNat 0)), (.bool .true)]), (.agg [(.ref (.slc 8271 0 1 1)), (.int .i64 (.ofNat 0))]), (.agg [(.ref (.slc 8310 0 2 2)), (.int .i64 (.ofNat 1))]), (.agg [(.ref (.slc 13 0 1 1)), (.int .i64 (.ofNat 0))]), (.c (.ref (.slc 8312 0 2 2))), (.agg [(.ref (.slc 8395 0 4 4)), (.int .i64 (.ofNat 3))]), (.agg [(.ref (.slc 8395 0 4 4)), (.int .i64 (.ofNat 3)), (.int .u8 (.ofNat 3)), (.int .i64 (.ofNat 0)), (.bool .true)]), (.agg [(.ref (.slc 22 0 1 1)), (.int .i64 (.ofNat 0))]), (.agg [(.ref (.slc 8435 0 2 2)), (.int .i64 (.ofNat 1))]), (.agg [(.ref (.slc 13 0 1 1)), (.int .i64 (.ofNat 0))]), (.agg [(.ref (.slc 17 0 1 1)), (.int .i64 (.ofNat 0))]), (.c (.ref (.slc 8437 0 3 3))), (.agg [(.ref (.slc 8548 0 5 5)), (.int .i64 (.ofNat 4))]), (.agg [(.ref (.slc 8548 0 5 5)), (.int .i64 (.ofNat 4)), (.int .u8 (.ofNat 3)), (.int .i64 (.ofNat 0)), (.bool .true)]), (.agg [(.ref (.slc 13 0 1 1)), (.int .i64 (.ofNat 0))]), (.agg [(.ref (.slc 17 0 1 1)), (.int .i64 (.ofNat 0))]), (.agg [(.ref (.slc 8588 0 2 2)), (.int .i64 (.ofNat 1))]), (.agg [(.ref (.slc 17 0 1 1)), (.int .i64 (.ofNat 0))]), (.c (.ref (.slc 8590 0 3 3))), (.agg [(.ref (.slc 8701 0 5 5)), (.int .i64 (.ofNat 4))]), (.agg [(.ref (.slc 8701 0 5 5)), (.int .i64 (.ofNat 4)), (.int .u8 (.ofNat 1)), (.int .i64 (.ofNat 1)), (.bool .true)]), (.agg [(.ref (.slc 22 0 1 1)), (.int .i64 (.ofNat 0))]), (.agg [(.ref (.slc 8741 0 2 2)), (.int .i64 (.ofNat 1))]), (.agg [(.ref (.slc 17 0 1 1)), (.int .i64 (.ofNat 0))]), (.c (.ref (.slc 8743 0 2 2))), (.agg [(.ref (.slc 8826 0 4 4)), (.int .i64 (.ofNat 3))]), (.agg [(.ref (.slc 8826 0 4 4)), (.int .i64 (.ofNat 3)), (.int .u8 (.ofNat 1)), (.int .i64 (.ofNat 0)), (.bool .true)]), (.agg [(.ref (.slc 22 0 1 1)), (.int .i64 (.ofNat 0))]), (.agg [(.ref (.slc 8866 0 2 2)), (.int .i64 (.ofNat 1))]), (.agg [(.ref (.slc 17 0 1 1)), (.int .i64 (.ofNat 0))]), (.c (.ref (.slc 8868 0 2 2))), (.agg [(.ref (.slc 8951 0 4 4)), (.int .i64 (.ofNat 3))]), (.agg [(.ref (.slc 8951 0 4 4)), (.int .i64 (.ofNat 3)), (.int .u8 (.ofNat 2)), (.int .i64 (.ofNat 0)), (.bool .true)]), (.agg [(.ref (.slc 13 0 1 1)), (.int .i64 (.ofNat 0))]), (.agg [(.ref (.slc 17 0 1 1)), (.int .i64 (.ofNat 0))]), (.agg [(.ref (.slc 13 0 1 1)), (.int .i64 (.ofNat 0))]), (.agg [(.ref (.slc 8991 0 2 2)), (.int .i64 (.ofNat 1))]), (.agg [(.ref (.slc 9049 0 3 3)), (.int .i64 (.ofNat 2))]), (.c (.ref (.slc 9051 0 3 3))), (.agg [(.ref (.slc 9180 0 6 6)), (.int .i64 (.ofNat 5))]), (.agg [(.ref (.slc 9180 0 6 6)), (.int .i64 (.ofNat 5)), (.int .u8 (.ofNat 2)), (.int .i64 (.ofNat 2)), (.bool .true)]), (.agg [(.ref (.slc 13 0 1 1)), (.int .i64 (.ofNat 0))]), (.agg [(.ref (.slc 22 0 1 1)), (.int .i64 (.ofNat 0))]), (.agg [(.ref (.slc 9220 0 2 2)), (.int .i64 (.ofNat 1))]), (.c (.ref (.slc 9222 0 2 2))), (.agg [(.ref (.slc 9305 0 4 4)), (.int .i64 (.ofNat 3))]), (.agg [(.ref (.slc 9305 0 4 4)), (.int .i64 (.ofNat 3)), (.int .u8 (.ofNat 1)), (.int .i64 (.ofNat 1)), (.bool .false)]), (.agg [(.ref (.slc 13 0 1 1)), (.int .i64 (.ofNat 0))]), (.agg [(.ref (.slc 9345 0 2 2)), (.int .i64 (.ofNat 1))]), (.agg [(.ref (.slc 9345 0 2 2)), (.int .i64 (.ofNat 1)), (.int .u8 (.ofNat 1)), (.int .i64 (.ofNat 0)), (.bool .false)]), (.c (.ref (.slc 9347 0 18 18))), (.c (.int .i64 (.ofNat 18))), (.c (.int .i64 (.ofNat 0))), (.tup []), (.tup []), (.tup []), (.tup []), (.tup []), (.tup []), (.tup []), (.tup []), (.tup []), (.tup []), (.tup []), (.tup []), (.tup []), (.tup []), (.tup []), (.tup []), (.tup []), (.tup []), (.tup []), (.tup []), (.tup []), (.tup []), (.tup []), (.tup []), (.tup []), (.tup []), (.tup []), (.tup []), (.tup []), (.tup []), (.tup []), (.tup []), (.tup []), (.tup []), (.tup []), (.tup []), (.tup []), (.tup []), (.tup []), (.tup []), (.tup []), (.tup []), (.tup []), (.tup []), (.tup []), (.tup []), (.tup []), (.tup []), (.tup []), (.tup []), (.tup []), (.tup []), (.tup []), (.tup []), (.tup []), (.tup []), (.tup []), (.tup []), (.tup []), (.tup []), (.tup []), (.tup []), (.tup []), (.tup []), (.tup []), (.tup []), (.tup []), (.tup []), (.tup []), (.tup []), (.tup []), (.tup []), (.tup []), (.tup []), (.tup []), (.tup []), (.tup []), (.tup []), (.tup []), (.tup []), (.tup []), (.tup []), (.tup []), (.tup []), (.tup []), (.tup []), (.tup []), (.tup []), (.tup []), (.tup []), (.tup []), (.tup []), (.tup []), (.tup []), (.tup []), (.tup []), (.tup []), (.tup []), (.tup []), (.tup []), (.tup []), (.tup []), (.tup []), (.tup []), (.tup []), (.tup []), (.tup []), (.tup []), (.tup []), (.tup []), (.tup []), (.tup []), (.tup []), (.tup []), (.tup []), (.tup []), (.tup []), (.tup []), (.tup []), (.tup []), (.tup []), (.tup []), (.tup []), (.tup []), (.tup []), (.tup []), (.tup []), (.tup []), (.tup []), (.tup []), (.tup []), (.tup []), (.tup []), (.tup []), (.tup []), (.tup []), (.tup []), (.tup []), (.tup []), (.tup []), (.tup []), (.tup []), (.tup []), (.tup []), (.tup []), (.tup []), (.tup []), (.tup []), (.tup []), (.tup []), (.tup []), (.tup []), (.tup []), (.tup []), (.tup []), (.tup []), (.tup []), (.tup []), (.tup []), (.tup []), (.tup []), (.tup []), (.tup []), (.tup []), (.tup []), (.tup []), (.tup []), (.tup []), (.tup []), (.tup []), (.tup []), (.tup []), (.tup []), (.tup []), (.tup []), (.tup []), (.tup []), (.tup []), (.tup []), (.tup []), (.tup []), (.tup []), (.tup []), (.tup []), (.tup []), (.tup []), (.tup []), (.tup []), (.tup []), (.tup []), (.tup []), (.tup [])], gl ++ [(13, (.row 49 9 9 .false 0 0 (CE.lt 0 [(.agg [(.int .u8 (.ofNat 2)), (.int .u64 (.ofNat 0)), (.int .u64 (.ofNat 0)), (.int .u64 (.ofNat 0)), (.int .u64 (.ofNat 0)), (.str [120]), (.int .i64 (.ofNat 0)), (.int .i64 (.ofNat 0)), (.ref .nils)])]))),   (17, (.row 49 9 9 .false 0 0 (CE.lt 0 [(.agg [(.int .u8 (.ofNat 2)), (.int .u64 (.ofNat 0)), (.int .u64 (.ofNat 0)), (.int .u64 (.ofNat 0)), (.int .u64 (.ofNat 0)), (.str [121]), (.int .i64 (.ofNat 0)), (.int .i64 (.ofNat 0)), (.ref .nils)])]))),   (22, (.row 49 9 9 .false 0 0 (CE.lt 0 [(.agg [(.int .u8 (.ofNat 1)), (.int .u64 (.ofNat 0)), (.int .u64 (.ofNat 0)), (.int .u64 (.ofNat 0)), (.int .u64 (.ofNat 0)), (.str []), (.int .i64 (.ofNat 0)), (.int .i64 (.ofNat 0)), (.ref .nils)])]))),   (23, (.row 34 2 2 .false 0 0 (CE.lt 0 [(.agg [(.ref (.slc 13 0 1 1)), (.int .i64 (.ofNat 0))])]))),   (24, (.row 34 2 2 .false 0 0 (CE.lt 0 [(.agg [(.ref (.slc 17 0 1 1)), (.int .i64 (.ofNat 0))])]))),   (25, (.row 34 2 2 .false 0 0 (CE.lt 0 [(.agg [(.ref (.slc 22 0 1 1)), (.int .i64 (.ofNat 0))])]))),   (5667, (.row 49 9 9 .false 0 0 (CE.lt 0 [(.agg [(.int .u8 (.ofNat 0)), (.int .u64 (.ofNat 0)), (.int .u64 (.ofNat 0)), (.int .u64 (.ofNat 0)), (.int .u64 (.ofNat 0)), (.str []), (.int .i64 (.ofNat 0)), (.int .i64 (.ofNat 0)), (.ref .nils)])]))),   (5668, (.row 34 6 2 .false 0 1 (CE.lt 1 [(.agg [(.ref (.slc 5667 0 1 1)), (.int .i64 (.ofNat 0))]), (.agg [(.ref (.slc 13 0 1 1)), (.int .i64 (.ofNat 0))]), (.agg [(.ref (.slc 22 0 1 1)), (.int .i64 (.ofNat 0))])]))),   (5759, (.row 3 3 1 .true 1 1 (CE.lt 1 [(.c (.int .i64 (.ofNat 0))), (.c (.int .i64 (.ofNat 1))), (.c (.int .i64 (.ofNat 2)))]))),   (5761, (.row 49 36 9 .true 1 1 (CE.lt 1 [(.agg [(.int .u8 (.ofNat 0)), (.int .u64 (.ofNat 0)), (.int .u64 (.ofNat 0)), (.int .u64 (.ofNat 0)), (.int .u64 (.ofNat 0)), (.str []), (.int .i64 (.ofNat 0)), (.int .i64 (.ofNat 0)), (.ref .nils)]), (.agg [(.int .u8 (.ofNat 2)), (.int .u64 (.ofNat 0)), (.int .u64 (.ofNat 0)), (.int .u64 (.ofNat 0)), (.int .u64 (.ofNat 0)), (.str [120]), (.int .i64 (.ofNat 0)), (.int .i64 (.ofNat 0)), (.ref .nils)]), (.agg [(.int .u8 (.ofNat 1)), (.int .u64 (.ofNat 0)), (.int .u64 (.ofNat 0)), (.int .u64 (.ofNat 0)), (.int .u64 (.ofNat 0)), (.str []), (.int .i64 (.ofNat 0)), (.int .i64 (.ofNat 0)), (.ref .nils)]), (.agg [(.int .u8 (.ofNat 5)), (.int .u64 (.ofNat 0)), (.int .u64 (.ofNat 0)), (.int .u64 (.ofNat 0)), (.int .u64 (.ofNat 0)), (.str []), (.int .i64 (.ofNat 0)), (.int .i64 (.ofNat 0)), (.ref (.slc 5759 0 3 3))])]))),   (5763, (.row 34 2 2 .false 0 0 (CE.lt 0 [(.agg [(.ref (.slc 5761 0 4 4)), (.int .i64 (.ofNat 3))])]))),   (5766, (.row 56 3 3 .false 0 0 (CE.lt 0 [(.agg [(.str [97]), (.ref (.slc 5761 0 4 4)), (.int .i64 (.ofNat 3))])]))),   (7549, (.row 71 10 5 .true 1 1 (CE.lt 1 [(.agg [(.int .u8 (.ofNat 2)), (.int .u8 (.ofNat 1)), (.int .i64 (.ofNat 0)), (.ref .nils), (.int .i64 (.ofNat 0))]), (.agg [(.int .u8 (.ofNat 2)), (.int .u8 (.ofNat 2)), (.int .i64 (.ofNat 0)), (.ref .nils), (.int .i64 (.ofNat 2))])]))),   (7585, (.row 56 3 3 .false 0 0 (CE.lt 0 [(.agg [(.str [97]), (.ref (.slc 5761 0 4 4)), (.int .i64 (.ofNat 3))])]))),   (8134, (.row 34 4 2 .false 0 1 (CE.lt 1 [(.agg [(.ref (.slc 13 0 1 1)), (.int .i64 (.ofNat 0))]), (.agg [(.ref (.slc 22 0 1 1)), (.int .i64 (.ofNat 0))])]))),   (8197, (.row 3 2 1 .true 1 1 (CE.lt 1 [(.c (.int .i64 (.ofNat 0))), (.c (.int .i64 (.ofNat 1)))]))),   (8199, (.row 49 27 9 .true 1 1 (CE.lt 1 [(.agg [(.int .u8 (.ofNat 2)), (.int .u64 (.ofNat 0)), (.int .u64 (.ofNat 0)), (.int .u64 (.ofNat 0)), (.int .u64 (.ofNat 0)), (.str [120]), (.int .i64 (.ofNat 0)), (.int .i64 (.ofNat 0)), (.ref .nils)]), (.agg [(.int .u8 (.ofNat 1)), (.int .u64 (.ofNat 0)), (.int .u64 (.ofNat 0)), (.int .u64 (.ofNat 0)), (.int .u64 (.ofNat 0)), (.str []), (.int .i64 (.ofNat 0)), (.int .i64 (.ofNat 0)), (.ref .nils)]), (.agg [(.int .u8 (.ofNat 4)), (.int .u64 (.ofNat 0)), (.int .u64 (.ofNat 0)), (.int .u64 (.ofNat 0)), (.int .u64 (.ofNat 0)), (.str []), (.int .i64 (.ofNat 0)), (.int .i64 (.ofNat 0)), (.ref (.slc 8197 0 2 2))])]))),   (8201, (.row 34 4 2 .false 0 1 (CE.lt 1 [(.agg [(.ref (.slc 22 0 1 1)), (.int .i64 (.ofNat 0))]), (.agg [(.ref (.slc 13 0 1 1)), (.int .i64 (.ofNat 0))])]))),   (8264, (.row 3 2 1 .true 1 1 (CE.lt 1 [(.c (.int .i64 (.ofNat 0))), (.c (.int .i64 (.ofNat 1)))]))),   (8266, (.row 49 27 9 .true 1 1 (CE.lt 1 [(.agg [(.int .u8 (.ofNat 1)), (.int .u64 (.ofNat 0)), (.int .u64 (.ofNat 0)), (.int .u64 (.ofNat 0)), (.int .u64 (.ofNat 0)), (.str []), (.int .i64 (.ofNat 0)), (.int .i64 (.ofNat 0)), (.ref .nils)]), (.agg [(.int .u8 (.ofNat 2)), (.int .u64 (.ofNat 0)), (.int .u64 (.ofNat 0)), (.int .u64 (.ofNat 0)), (.int .u64 (.ofNat 0)), (.str [120]), (.int .i64 (.ofNat 0)), (.int .i64 (.ofNat 0)), (.ref .nils)]), (.agg [(.int .u8 (.ofNat 4)), (.int .u64 (.ofNat 0)), (.int .u64 (.ofNat 0)), (.int .u64 (.ofNat 0)), (.int .u64 (.ofNat 0)), (.str []), (.int .i64 (.ofNat 0)), (.int .i64 (.ofNat 0)), (.ref (.slc 8264 0 2 2))])]))),   (8271, (.row 49 9 9 .false 0 0 (CE.lt 0 [(.agg [(.int .u8 (.ofNat 0)), (.int .u64 (.ofNat 0)), (.int .u64 (.ofNat 0)), (.int .u64 (.ofNat 0)), (.int .u64 (.ofNat 0)), (.str []), (.int .i64 (.ofNat 0)), (.int .i64 (.ofNat 0)), (.ref .nils)])]))),   (8308, (.row 3 1 1 .true 1 0 (CE.lt 0 [(.c (.int .i64 (.ofNat 0)))]))),   (8310, (.row 49 18 9 .true 1 1 (CE.lt 1 [(.agg [(.int .u8 (.ofNat 0)), (.int .u64 (.ofNat 0)), (.int .u64 (.ofNat 0)), (.int .u64 (.ofNat 0)), (.int .u64 (.ofNat 0)), (.str []), (.int .i64 (.ofNat 0)), (.int .i64 (.ofNat 0)), (.ref .nils)]), (.agg [(.int .u8 (.ofNat 8)), (.int .u64 (.ofNat 0)), (.int .u64 (.ofNat 0)), (.int .u64 (.ofNat 0)), (.int .u64 (.ofNat 0)), (.str []), (.int .i64 (.ofNat 0)), (.int .i64 (.ofNat 0)), (.ref (.slc 8308 0 1 1))])]))),   (8312, (.row 34 4 2 .false 0 1 (CE.lt 1 [(.agg [(.ref (.slc 8310 0 2 2)), (.int .i64 (.ofNat 1))]), (.agg [(.ref (.slc 13 0 1 1)), (.int .i64 (.ofNat 0))])]))),   (8361, (.row 3 1 1 .true 1 0 (CE.lt 0 [(.c (.int .i64 (.ofNat 0)))]))),   (8393, (.row 3 2 1 .true 1 1 (CE.lt 1 [(.c (.int .i64 (.ofNat 1))), (.c (.int .i64 (.ofNat 2)))]))),   (8395, (.row 49 36 9 .true 1 1 (CE.lt 1 [(.agg [(.int .u8 (.ofNat 0)), (.int .u64 (.ofNat 0)), (.int .u64 (.ofNat 0)), (.int .u64 (.ofNat 0)), (.int .u64 (.ofNat 0)), (.str []), (.int .i64 (.ofNat 0)), (.int .i64 (.ofNat 0)), (.ref .nils)]), (.agg [(.int .u8 (.ofNat 8)), (.int .u64 (.ofNat 0)), (.int .u64 (.ofNat 0)), (.int .u64 (.ofNat 0)), (.int .u64 (.ofNat 0)), (.str []), (.int .i64 (.ofNat 0)), (.int .i64 (.ofNat 0)), (.ref (.slc 8361 0 1 1))]), (.agg [(.int .u8 (.ofNat 2)), (.int .u64 (.ofNat 0)), (.int .u64 (.ofNat 0)), (.int .u64 (.ofNat 0)), (.int .u64 (.ofNat 0)), (.str [120]), (.int .i64 (.ofNat 0)), (.int .i64 (.ofNat 0)), (.ref .nils)]), (.agg [(.int .u8 (.ofNat 4)), (.int .u64 (.ofNat 0)), (.int .u64 (.ofNat 0)), (.int .u64 (.ofNat 0)), (.int .u64 (.ofNat 0)), (.str []), (.int .i64 (.ofNat 0)), (.int .i64 (.ofNat 0)), (.ref (.slc 8393 0 2 2))])]))),   (8433, (.row 3 1 1 .true 1 0 (CE.lt 0 [(.c (.int .i64 (.ofNat 0)))]))),   (8435, (.row 49 18 9 .true 1 1 (CE.lt 1 [(.agg [(.int .u8 (.ofNat 1)), (.int .u64 (.ofNat 0)), (.int .u64 (.ofNat 0)), (.int .u64 (.ofNat 0)), (.int .u64 (.ofNat 0)), (.str []), (.int .i64 (.ofNat 0)), (.int .i64 (.ofNat 0)), (.ref .nils)]), (.agg [(.int .u8 (.ofNat 7)), (.int .u64 (.ofNat 0)), (.int .u64 (.ofNat 0)), (.int .u64 (.ofNat 0)), (.int .u64 (.ofNat 0)), (.str []), (.int .i64 (.ofNat 0)), (.int .i64 (.ofNat 0)), (.ref (.slc 8433 0 1 1))])]))),   (8437, (.row 34 6 2 .false 0 1 (CE.lt 1 [(.agg [(.ref (.slc 8435 0 2 2)), (.int .i64 (.ofNat 1))]), (.agg [(.ref (.slc 13 0 1 1)), (.int .i64 (.ofNat 0))]), (.agg [(.ref (.slc 17 0 1 1)), (.int .i64 (.ofNat 0))])]))),   (8486, (.row 3 1 1 .true 1 0 (CE.lt 0 [(.c (.int .i64 (.ofNat 0)))]))),   (8546, (.row 3 3 1 .true 1 1 (CE.lt 1 [(.c (.int .i64 (.ofNat 1))), (.c (.int .i64 (.ofNat 2))), (.c (.int .i64 (.ofNat 3)))]))),   (8548, (.row 49 45 9 .true 1 1 (CE.lt 1 [(.agg [(.int .u8 (.ofNat 1)), (.int .u64 (.ofNat 0)), (.int .u64 (.ofNat 0)), (.int .u64 (.ofNat 0)), (.int .u64 (.ofNat 0)), (.str []), (.int .i64 (.ofNat 0)), (.int .i64 (.ofNat 0)), (.ref .nils)]), (.agg [(.int .u8 (.ofNat 7)), (.int .u64 (.ofNat 0)), (.int .u64 (.ofNat 0)), (.int .u64 (.ofNat 0)), (.int .u64 (.ofNat 0)), (.str []), (.int .i64 (.ofNat 0)), (.int .i64 (.ofNat 0)), (.ref (.slc 8486 0 1 1))]), (.agg [(.int .u8 (.ofNat 2)), (.int .u64 (.ofNat 0)), (.int .u64 (.ofNat 0)), (.int .u64 (.ofNat 0)), (.int .u64 (.ofNat 0)), (.str [120]), (.int .i64 (.ofNat 0)), (.int .i64 (.ofNat 0)), (.ref .nils)]), (.agg [(.int .u8 (.ofNat 2)), (.int .u64 (.ofNat 0)), (.int .u64 (.ofNat 0)), (.int .u64 (.ofNat 0)), (.int .u64 (.ofNat 0)), (.str [121]), (.int .i64 (.ofNat 0)), (.int .i64 (.ofNat 0)), (.ref .nils)]), (.agg [(.int .u8 (.ofNat 4)), (.int .u64 (.ofNat 0)), (.int .u64 (.ofNat 0)), (.int .u64 (.ofNat 0)), (.int .u64 (.ofNat 0)), (.str []), (.int .i64 (.ofNat 0)), (.int .i64 (.ofNat 0)), (.ref (.slc 8546 0 3 3))])]))),   (8586, (.row 3 1 1 .true 1 0 (CE.lt 0 [(.c (.int .i64 (.ofNat 0)))]))),   (8588, (.row 49 18 9 .true 1 1 (CE.lt 1 [(.agg [(.int .u8 (.ofNat 2)), (.int .u64 (.ofNat 0)), (.int .u64 (.ofNat 0)), (.int .u64 (.ofNat 0)), (.int .u64 (.ofNat 0)), (.str [121]), (.int .i64 (.ofNat 0)), (.int .i64 (.ofNat 0)), (.ref .nils)]), (.agg [(.int .u8 (.ofNat 6)), (.int .u64 (.ofNat 0)), (.int .u64 (.ofNat 0)), (.int .u64 (.ofNat 0)), (.int .u64 (.ofNat 0)), (.str []), (.int .i64 (.ofNat 0)), (.int .i64 (.ofNat 0)), (.ref (.slc 8586 0 1 1))])]))),   (8590, (.row 34 6 2 .false 0 1 (CE.lt 1 [(.agg [(.ref (.slc 13 0 1 1)), (.int .i64 (.ofNat 0))]), (.agg [(.ref (.slc 8588 0 2 2)), (.int .i64 (.ofNat 1))]), (.agg [(.ref (.slc 17 0 1 1)), (.int .i64 (.ofNat 0))])]))),   (8667, (.row 3 1 1 .true 1 0 (CE.lt 0 [(.c (.int .i64 (.ofNat 1)))]))),   (8699, (.row 3 3 1 .true 1 1 (CE.lt 1 [(.c (.int .i64 (.ofNat 0))), (.c (.int .i64 (.ofNat 2))), (.c (.int .i64 (.ofNat 3)))]))),   (8701, (.row 49 45 9 .true 1 1 (CE.lt 1 [(.agg [(.int .u8 (.ofNat 2)), (.int .u64 (.ofNat 0)), (.int .u64 (.ofNat 0)), (.int .u64 (.ofNat 0)), (.int .u64 (.ofNat 0)), (.str [120]), (.int .i64 (.ofNat 0)), (.int .i64 (.ofNat 0)), (.ref .nils)]), (.agg [(.int .u8 (.ofNat 2)), (.int .u64 (.ofNat 0)), (.int .u64 (.ofNat 0)), (.int .u64 (.ofNat 0)), (.int .u64 (.ofNat 0)), (.str [121]), (.int .i64 (.ofNat 0)), (.int .i64 (.ofNat 0)), (.ref .nils)]), (.agg [(.int .u8 (.ofNat 6)), (.int .u64 (.ofNat 0)), (.int .u64 (.ofNat 0)), (.int .u64 (.ofNat 0)), (.int .u64 (.ofNat 0)), (.str []), (.int .i64 (.ofNat 0)), (.int .i64 (.ofNat 0)), (.ref (.slc 8667 0 1 1))]), (.agg [(.int .u8 (.ofNat 2)), (.int .u64 (.ofNat 0)), (.int .u64 (.ofNat 0)), (.int .u64 (.ofNat 0)), (.int .u64 (.ofNat 0)), (.str [121]), (.int .i64 (.ofNat 0)), (.int .i64 (.ofNat 0)), (.ref .nils)]), (.agg [(.int .u8 (.ofNat 5)), (.int .u64 (.ofNat 0)), (.int .u64 (.ofNat 0)), (.int .u64 (.ofNat 0)), (.int .u64 (.ofNat 0)), (.str []), (.int .i64 (.ofNat 0)), (.int .i64 (.ofNat 0)), (.ref (.slc 8699 0 3 3))])]))),   (8739, (.row 3 1 1 .true 1 0 (CE.lt 0 [(.c (.int .i64 (.ofNat 0)))]))),   (8741, (.row 49 18 9 .true 1 1 (CE.lt 1 [(.agg [(.int .u8 (.ofNat 1)), (.int .u64 (.ofNat 0)), (.int .u64 (.ofNat 0)), (.int .u64 (.ofNat 0)), (.int .u64 (.ofNat 0)), (.str []), (.int .i64 (.ofNat 0)), (.int .i64 (.ofNat 0)), (.ref .nils)]), (.agg [(.int .u8 (.ofNat 8)), (.int .u64 (.ofNat 0)), (.int .u64 (.ofNat 0)), (.int .u64 (.ofNat 0)), (.int .u64 (.ofNat 0)), (.str []), (.int .i64 (.ofNat 0)), (.int .i64 (.ofNat 0)), (.ref (.slc 8739 0 1 1))])]))),   (8743, (.row 34 4 2 .false 0 1 (CE.lt 1 [(.agg [(.ref (.slc 8741 0 2 2)), (.int .i64 (.ofNat 1))]), (.agg [(.ref (.slc 17 0 1 1)), (.int .i64 (.ofNat 0))])]))),   (8792, (.row 3 1 1 .true 1 0 (CE.lt 0 [(.c (.int .i64 (.ofNat 0)))]))),   (8824, (.row 3 2 1 .true 1 1 (CE.lt 1 [(.c (.int .i64 (.ofNat 1))), (.c (.int .i64 (.ofNat 2)))]))),   (8826, (.row 49 36 9 .true 1 1 (CE.lt 1 [(.agg [(.int .u8 (.ofNat 1)), (.int .u64 (.ofNat 0)), (.int .u64 (.ofNat 0)), (.int .u64 (.ofNat 0)), (.int .u64 (.ofNat 0)), (.str []), (.int .i64 (.ofNat 0)), (.int .i64 (.ofNat 0)), (.ref .nils)]), (.agg [(.int .u8 (.ofNat 8)), (.int .u64 (.ofNat 0)), (.int .u64 (.ofNat 0)), (.int .u64 (.ofNat 0)), (.int .u64 (.ofNat 0)), (.str []), (.int .i64 (.ofNat 0)), (.int .i64 (.ofNat 0)), (.ref (.slc 8792 0 1 1))]), (.agg [(.int .u8 (.ofNat 2)), (.int .u64 (.ofNat 0)), (.int .u64 (.ofNat 0)), (.int .u64 (.ofNat 0)), (.int .u64 (.ofNat 0)), (.str [121]), (.int .i64 (.ofNat 0)), (.int .i64 (.ofNat 0)), (.ref .nils)]), (.agg [(.int .u8 (.ofNat 5)), (.int .u64 (.ofNat 0)), (.int .u64 (.ofNat 0)), (.int .u64 (.ofNat 0)), (.int .u64 (.ofNat 0)), (.str []), (.int .i64 (.ofNat 0)), (.int .i64 (.ofNat 0)), (.ref (.slc 8824 0 2 2))])]))),   (8864, (.row 3 1 1 .true 1 0 (CE.lt 0 [(.c (.int .i64 (.ofNat 0)))]))),   (8866, (.row 49 18 9 .true 1 1 (CE.lt 1 [(.agg [(.int .u8 (.ofNat 1)), (.int .u64 (.ofNat 0)), (.int .u64 (.ofNat 0)), (.int .u64 (.ofNat 0)), (.int .u64 (.ofNat 0)), (.str []), (.int .i64 (.ofNat 0)), (.int .i64 (.ofNat 0)), (.ref .nils)]), (.agg [(.int .u8 (.ofNat 6)), (.int .u64 (.ofNat 0)), (.int .u64 (.ofNat 0)), (.int .u64 (.ofNat 0)), (.int .u64 (.ofNat 0)), (.str []), (.int .i64 (.ofNat 1)), (.int .i64 (.negSucc 0)), (.ref (.slc 8864 0 1 1))])]))),   (8868, (.row 34 4 2 .false 0 1 (CE.lt 1 [(.agg [(.ref (.slc 8866 0 2 2)), (.int .i64 (.ofNat 1))]), (.agg [(.ref (.slc 17 0 1 1)), (.int .i64 (.ofNat 0))])]))),   (8917, (.row 3 1 1 .true 1 0 (CE.lt 0 [(.c (.int .i64 (.ofNat 0)))]))),   (8949, (.row 3 2 1 .true 1 1 (CE.lt 1 [(.c (.int .i64 (.ofNat 1))), (.c (.int .i64 (.ofNat 2)))]))),   (8951, (.row 49 36 9 .true 1 1 (CE.lt 1 [(.agg [(.int .u8 (.ofNat 1)), (.int .u64 (.ofNat 0)), (.int .u64 (.ofNat 0)), (.int .u64 (.ofNat 0)), (.int .u64 (.ofNat 0)), (.str []), (.int .i64 (.ofNat 0)), (.int .i64 (.ofNat 0)), (.ref .nils)]), (.agg [(.int .u8 (.ofNat 6)), (.int .u64 (.ofNat 0)), (.int .u64 (.ofNat 0)), (.int .u64 (.ofNat 0)), (.int .u64 (.ofNat 0)), (.str []), (.int .i64 (.ofNat 1)), (.int .i64 (.negSucc 0)), (.ref (.slc 8917 0 1 1))]), (.agg [(.int .u8 (.ofNat 2)), (.int .u64 (.ofNat 0)), (.int .u64 (.ofNat 0)), (.int .u64 (.ofNat 0)), (.int .u64 (.ofNat 0)), (.str [121]), (.int .i64 (.ofNat 0)), (.int .i64 (.ofNat 0)), (.ref .nils)]), (.agg [(.int .u8 (.ofNat 5)), (.int .u64 (.ofNat 0)), (.int .u64 (.ofNat 0)), (.int .u64 (.ofNat 0)), (.int .u64 (.ofNat 0)), (.str []), (.int .i64 (.ofNat 0)), (.int .i64 (.ofNat 0)), (.ref (.slc 8949 0 2 2))])]))),   (8989, (.row 3 1 1 .true 1 0 (CE.lt 0 [(.c (.int .i64 (.ofNat 0)))]))),   (8991, (.row 49 18 9 .true 1 1 (CE.lt 1 [(.agg [(.int .u8 (.ofNat 2)), (.int .u64 (.ofNat 0)), (.int .u64 (.ofNat 0)), (.int .u64 (.ofNat 0)), (.int .u64 (.ofNat 0)), (.str [120]), (.int .i64 (.ofNat 0)), (.int .i64 (.ofNat 0)), (.ref .nils)]), (.agg [(.int .u8 (.ofNat 6)), (.int .u64 (.ofNat 0)), (.int .u64 (.ofNat 0)), (.int .u64 (.ofNat 0)), (.int .u64 (.ofNat 0)), (.str []), (.int .i64 (.ofNat 0)), (.int .i64 (.ofNat 3)), (.ref (.slc 8989 0 1 1))])]))),   (9043, (.row 3 1 1 .true 1 0 (CE.lt 0 [(.c (.int .i64 (.ofNat 0)))]))),   (9047, (.row 3 1 1 .true 1 0 (CE.lt 0 [(.c (.int .i64 (.ofNat 1)))]))),   (9049, (.row 49 27 9 .true 1 1 (CE.lt 1 [(.agg [(.int .u8 (.ofNat 2)), (.int .u64 (.ofNat 0)), (.int .u64 (.ofNat 0)), (.int .u64 (.ofNat 0)), (.int .u64 (.ofNat 0)), (.str [120]), (.int .i64 (.ofNat 0)), (.int .i64 (.ofNat 0)), (.ref .nils)]), (.agg [(.int .u8 (.ofNat 6)), (.int .u64 (.ofNat 0)), (.int .u64 (.ofNat 0)), (.int .u64 (.ofNat 0)), (.int .u64 (.ofNat 0)), (.str []), (.int .i64 (.ofNat 0)), (.int .i64 (.ofNat 3)), (.ref (.slc 9043 0 1 1))]), (.agg [(.int .u8 (.ofNat 8)), (.int .u64 (.ofNat 0)), (.int .u64 (.ofNat 0)), (.int .u64 (.ofNat 0)), (.int .u64 (.ofNat 0)), (.str []), (.int .i64 (.ofNat 0)), (.int .i64 (.ofNat 0)), (.ref (.slc 9047 0 1 1))])]))),   (9051, (.row 34 6 2 .false 0 1 (CE.lt 1 [(.agg [(.ref (.slc 13 0 1 1)), (.int .i64 (.ofNat 0))]), (.agg [(.ref (.slc 17 0 1 1)), (.int .i64 (.ofNat 0))]), (.agg [(.ref (.slc 9049 0 3 3)), (.int .i64 (.ofNat 2))])]))),   (9169, (.row 3 1 1 .true 1 0 (CE.lt 0 [(.c (.int .i64 (.ofNat 2)))]))),   (9174, (.row 3 1 1 .true 1 0 (CE.lt 0 [(.c (.int .i64 (.ofNat 3)))]))),   (9178, (.row 3 3 1 .true 1 1 (CE.lt 1 [(.c (.int .i64 (.ofNat 0))), (.c (.int .i64 (.ofNat 1))), (.c (.int .i64 (.ofNat 4)))]))),   (9180, (.row 49 54 9 .true 1 1 (CE.lt 1 [(.agg [(.int .u8 (.ofNat 2)), (.int .u64 (.ofNat 0)), (.int .u64 (.ofNat 0)), (.int .u64 (.ofNat 0)), (.int .u64 (.ofNat 0)), (.str [120]), (.int .i64 (.ofNat 0)), (.int .i64 (.ofNat 0)), (.ref .nils)]), (.agg [(.int .u8 (.ofNat 2)), (.int .u64 (.ofNat 0)), (.int .u64 (.ofNat 0)), (.int .u64 (.ofNat 0)), (.int .u64 (.ofNat 0)), (.str [121]), (.int .i64 (.ofNat 0)), (.int .i64 (.ofNat 0)), (.ref .nils)]), (.agg [(.int .u8 (.ofNat 2)), (.int .u64 (.ofNat 0)), (.int .u64 (.ofNat 0)), (.int .u64 (.ofNat 0)), (.int .u64 (.ofNat 0)), (.str [120]), (.int .i64 (.ofNat 0)), (.int .i64 (.ofNat 0)), (.ref .nils)]), (.agg [(.int .u8 (.ofNat 6)), (.int .u64 (.ofNat 0)), (.int .u64 (.ofNat 0)), (.int .u64 (.ofNat 0)), (.int .u64 (.ofNat 0)), (.str []), (.int .i64 (.ofNat 0)), (.int .i64 (.ofNat 3)), (.ref (.slc 9169 0 1 1))]), (.agg [(.int .u8 (.ofNat 8)), (.int .u64 (.ofNat 0)), (.int .u64 (.ofNat 0)), (.int .u64 (.ofNat 0)), (.int .u64 (.ofNat 0)), (.str []), (.int .i64 (.ofNat 0)), (.int .i64 (.ofNat 0)), (.ref (.slc 9174 0 1 1))]), (.agg [(.int .u8 (.ofNat 5)), (.int .u64 (.ofNat 0)), (.int .u64 (.ofNat 0)), (.int .u64 (.ofNat 0)), (.int .u64 (.ofNat 0)), (.str []), (.int .i64 (.ofNat 0)), (.int .i64 (.ofNat 0)), (.ref (.slc 9178 0 3 3))])]))),   (9218, (.row 3 1 1 .true 1 0 (CE.lt 0 [(.c (.int .i64 (.ofNat 0)))]))),   (9220, (.row 49 18 9 .true 1 1 (CE.lt 1 [(.agg [(.int .u8 (.ofNat 1)), (.int .u64 (.ofNat 0)), (.int .u64 (.ofNat 0)), (.int .u64 (.ofNat 0)), (.int .u64 (.ofNat 0)), (.str []), (.int .i64 (.ofNat 0)), (.int .i64 (.ofNat 0)), (.ref .nils)]), (.agg [(.int .u8 (.ofNat 8)), (.int .u64 (.ofNat 0)), (.int .u64 (.ofNat 0)), (.int .u64 (.ofNat 0)), (.int .u64 (.ofNat 0)), (.str []), (.int .i64 (.ofNat 0)), (.int .i64 (.ofNat 0)), (.ref (.slc 9218 0 1 1))])]))),   (9222, (.row 34 4 2 .false 0 1 (CE.lt 1 [(.agg [(.ref (.slc 13 0 1 1)), (.int .i64 (.ofNat 0))]), (.agg [(.ref (.slc 9220 0 2 2)), (.int .i64 (.ofNat 1))])]))),   (9299, (.row 3 1 1 .true 1 0 (CE.lt 0 [(.c (.int .i64 (.ofNat 1)))]))),   (9303, (.row 3 2 1 .true 1 1 (CE.lt 1 [(.c (.int .i64 (.ofNat 0))), (.c (.int .i64 (.ofNat 2)))]))),   (9305, (.row 49 36 9 .true 1 1 (CE.lt 1 [(.agg [(.int .u8 (.ofNat 2)), (.int .u64 (.ofNat 0)), (.int .u64 (.ofNat 0)), (.int .u64 (.ofNat 0)), (.int .u64 (.ofNat 0)), (.str [120]), (.int .i64 (.ofNat 0)), (.int .i64 (.ofNat 0)), (.ref .nils)]), (.agg [(.int .u8 (.ofNat 1)), (.int .u64 (.ofNat 0)), (.int .u64 (.ofNat 0)), (.int .u64 (.ofNat 0)), (.int .u64 (.ofNat 0)), (.str []), (.int .i64 (.ofNat 0)), (.int .i64 (.ofNat 0)), (.ref .nils)]), (.agg [(.int .u8 (.ofNat 8)), (.int .u64 (.ofNat 0)), (.int .u64 (.ofNat 0)), (.int .u64 (.ofNat 0)), (.int .u64 (.ofNat 0)), (.str []), (.int .i64 (.ofNat 0)), (.int .i64 (.ofNat 0)), (.ref (.slc 9299 0 1 1))]), (.agg [(.int .u8 (.ofNat 5)), (.int .u64 (.ofNat 0)), (.int .u64 (.ofNat 0)), (.int .u64 (.ofNat 0)), (.int .u64 (.ofNat 0)), (.str []), (.int .i64 (.ofNat 0)), (.int .i64 (.ofNat 0)), (.ref (.slc 9303 0 2 2))])]))),   (9343, (.row 3 1 1 .true 1 0 (CE.lt 0 [(.c (.int .i64 (.ofNat 0)))]))),   (9345, (.row 49 18 9 .true 1 1 (CE.lt 1 [(.agg [(.int .u8 (.ofNat 2)), (.int .u64 (.ofNat 0)), (.int .u64 (.ofNat 0)), (.int .u64 (.ofNat 0)), (.int .u64 (.ofNat 0)), (.str [120]), (.int .i64 (.ofNat 0)), (.int .i64 (.ofNat 0)), (.ref .nils)]), (.agg [(.int .u8 (.ofNat 6)), (.int .u64 (.ofNat 0)), (.int .u64 (.ofNat 0)), (.int .u64 (.ofNat 0)), (.int .u64 (.ofNat 0)), (.str []), (.int .i64 (.ofNat 0)), (.int .i64 (.negSucc 0)), (.ref (.slc 9343 0 1 1))])]))),   (9347, (.row 83 90 5 .false 0 2 (CE.lt 2 [(.agg [(.ref (.slc 5761 0 4 4)), (.int .i64 (.ofNat 3)), (.int .u8 (.ofNat 1)), (.int .i64 (.ofNat 1)), (.bool .false)]), (.agg [(.ref (.slc 5761 0 4 4)), (.int .i64 (.ofNat 3)), (.int .u8 (.ofNat 1)), (.int .i64 (.ofNat 2)), (.bool .false)]), (.agg [(.ref (.slc 5761 0 4 4)), (.int .i64 (.ofNat 3)), (.int .u8 (.ofNat 2)), (.int .i64 (.ofNat 0)), (.bool .false)]), (.agg [(.ref (.slc 5761 0 4 4)), (.int .i64 (.ofNat 3)), (.int .u8 (.ofNat 3)), (.int .i64 (.ofNat 2)), (.bool .false)]), (.agg [(.ref (.slc 5761 0 4 4)), (.int .i64 (.ofNat 3)), (.int .u8 (.ofNat 0)), (.int .i64 (.ofNat 0)), (.bool .false)]), (.agg [(.ref (.slc 5761 0 4 4)), (.int .i64 (.ofNat 3)), (.int .u8 (.ofNat 4)), (.int .i64 (.ofNat 0)), (.bool .false)]), (.agg [(.ref (.slc 5761 0 4 4)), (.int .i64 (.ofNat 3)), (.int .u8 (.ofNat 1)), (.int .i64 (.negSucc 0)), (.bool .false)]), (.agg [(.ref (.slc 5761 0 4 4)), (.int .i64 (.ofNat 3)), (.int .u8 (.ofNat 2)), (.int .i64 (.ofNat 3)), (.bool .false)]), (.agg [(.ref (.slc 8199 0 3 3)), (.int .i64 (.ofNat 2)), (.int .u8 (.ofNat 3)), (.int .i64 (.ofNat 1)), (.bool .false)]), (.agg [(.ref (.slc 8266 0 3 3)), (.int .i64 (.ofNat 2)), (.int .u8 (.ofNat 3)), (.int .i64 (.ofNat 0)), (.bool .true)]), (.agg [(.ref (.slc 8395 0 4 4)), (.int .i64 (.ofNat 3)), (.int .u8 (.ofNat 3)), (.int .i64 (.ofNat 0)), (.bool .true)]), (.agg [(.ref (.slc 8548 0 5 5)), (.int .i64 (.ofNat 4)), (.int .u8 (.ofNat 3)), (.int .i64 (.ofNat 0)), (.bool .true)]), (.agg [(.ref (.slc 8701 0 5 5)), (.int .i64 (.ofNat 4)), (.int .u8 (.ofNat 1)), (.int .i64 (.ofNat 1)), (.bool .true)]), (.agg [(.ref (.slc 8826 0 4 4)), (.int .i64 (.ofNat 3)), (.int .u8 (.ofNat 1)), (.int .i64 (.ofNat 0)), (.bool .true)]), (.agg [(.ref (.slc 8951 0 4 4)), (.int .i64 (.ofNat 3)), (.int .u8 (.ofNat 2)), (.int .i64 (.ofNat 0)), (.bool .true)]), (.agg [(.ref (.slc 9180 0 6 6)), (.int .i64 (.ofNat 5)), (.int .u8 (.ofNat 2)), (.int .i64 (.ofNat 2)), (.bool .true)]), (.agg [(.ref (.slc 9305 0 4 4)), (.int .i64 (.ofNat 3)), (.int .u8 (.ofNat 1)), (.int .i64 (.ofNat 1)), (.bool .false)]), (.agg [(.ref (.slc 9345 0 2 2)), (.int .i64 (.ofNat 1)), (.int .u8 (.ofNat 1)), (.int .i64 (.ofNat 0)), (.bool .false)])])))], 9348, []⟩

def s8 : CE.Snap := ⟨CE.setE s7.es [(155, (.c (.bool .true)))], CE.dropL [] s7.L ++ [], 9348, []⟩

def s9 : CE.Snap := ⟨CE.setE s8.es [], CE.dropL [] s8.L ++ [], 9348, []⟩

def s10 : CE.Snap := ⟨CE.setE s9.es [(7, (.c (.ref (.ptr 9348 0)))),
  (156, (.c (.ref (.ptr 9347 0)))),
  (157, (.agg [(.ref (.slc 5761 0 4 4)), (.int .i64 (.ofNat 3)), (.int .u8 (.ofNat 1)), (.int .i64 (.ofNat 1)), (.bool .false)]))], CE.dropL [] s9.L ++ [(9348, (.row 83 5 5 .false 0 0 (CE.lt 0 [(.agg [(.ref (.slc 5761 0 4 4)), (.int .i64 (.ofNat 3)), (.int .u8 (.ofNat 1)), (.int .i64 (.ofNat 1)), (.bool .false)])])))], 9349, []⟩

def s11 : CE.Snap := ⟨CE.setE s10.es [(8, (.c (.ref (.ptr 10137 0)))),
  (9, (.c (.bool .false))),
  (158, (.tup [(.agg [(.ref .nils), (.int .i64 (.ofNat 0))]), (.c (.bool .false))])),
  (159, (.c (.ref (.ptr 9348 0)))),
  (160, (.agg [(.ref (.slc 5761 0 4 4)), (.int .i64 (.ofNat 3))])),
  (161, (.c (.ref (.ptr 9348 2)))),
  (162, (.c (.int .u8 (.ofNat 1)))),
  (163, (.c (.ref (.ptr 9348 3)))),
  (164, (.c (.int .i64 (.ofNat 1)))),
  (165, (.tup [(.agg [(.ref .nils), (.int .i64 (.ofNat 0))]), (.c (.bool .false))])),
  (166, (.agg [(.ref .nils), (.int .i64 (.ofNat 0))])),
  (167, (.c (.bool .false)))], CE.dropL [] s10.L ++ [(10137, (.row 34 2 2 .false 0 0 (CE.lt 0 [(.agg [(.ref .nils), (.int .i64 (.ofNat 0))])])))], 10138, []⟩

def s12 : CE.Snap := ⟨CE.setE s11.es [(168, (.c (.bool .false))),
  (169, (.c (.ref (.ptr 9348 4)))),
  (170, (.c (.bool .false))),
  (171, (.c (.bool .false))),
  (172, (.c (.bool .false))),
  (173, (.c (.bool .false))),
  (174, (.c (.bool .false))),
  (181, (.c (.bool .false))),
  (182, (.c (.bool .false)))], CE.dropL [] s11.L ++ [], 10138, []⟩

def s13 : CE.Snap := ⟨CE.setE s12.es [(154, (.c (.int .i64 (.ofNat 1)))),
  (183, (.c (.int .i64 (.ofNat 1))))], CE.dropL [] s12.L ++ [], 10138, []⟩

def s14 : CE.Snap := ⟨CE.setE s13.es [], CE.dropL [] s13.L ++ [], 10138, []⟩

def s15 : CE.Snap := ⟨CE.setE s14.es [], CE.dropL [] s14.L ++ [], 10138, []⟩

def s16 : CE.Snap := ⟨CE.setE s15.es [(7, (.c (.ref (.ptr 10138 0)))),
  (156, (.c (.ref (.ptr 9347 5)))),
  (157, (.agg [(.ref (.slc 5761 0 4 4)), (.int .i64 (.ofNat 3)), (.int .u8 (.ofNat 1)), (.int .i64 (.ofNat 2)), (.bool .false)]))], CE.dropL [] s15.L ++ [(10138, (.row 83 5 5 .false 0 0 (CE.lt 0 [(.agg [(.ref (.slc 5761 0 4 4)), (.int .i64 (.ofNat 3)), (.int .u8 (.ofNat 1)), (.int .i64 (.ofNat 2)), (.bool .false)])])))], 10139, []⟩

def s17 : CE.Snap := ⟨CE.setE s16.es [(8, (.c (.ref (.ptr 10927 0)))),
  (159, (.c (.ref (.ptr 10138 0)))),
  (161, (.c (.ref (.ptr 10138 2)))),
  (163, (.c (.ref (.ptr 10138 3)))),
  (164, (.c (.int .i64 (.ofNat 2))))], CE.dropL [10137] s16.L ++ [(10927, (.row 34 2 2 .false 0 0 (CE.lt 0 [(.agg [(.ref .nils), (.int .i64 (.ofNat 0))])])))], 10928, []⟩

def s18 : CE.Snap := ⟨CE.setE s17.es [(169, (.c (.ref (.ptr 10138 4))))], CE.dropL [9348] s17.L ++ [], 10928, []⟩

def s19 : CE.Snap := ⟨CE.setE s18.es [(154, (.c (.int .i64 (.ofNat 2)))),
  (183, (.c (.int .i64 (.ofNat 2))))], CE.dropL [] s18.L ++ [], 10928, []⟩

def s20 : CE.Snap := ⟨CE.setE s19.es [], CE.dropL [] s19.L ++ [], 10928, []⟩

def s21 : CE.Snap := ⟨CE.setE s20.es [], CE.dropL [] s20.L ++ [], 10928, []⟩

def s22 : CE.Snap := ⟨CE.setE s21.es [(7, (.c (.ref (.ptr 10928 0)))),
  (156, (.c (.ref (.ptr 9347 10)))),
  (157, (.agg [(.ref (.slc 5761 0 4 4)), (.int .i64 (.ofNat 3)), (.int .u8 (.ofNat 2)), (.int .i64 (.ofNat 0)), (.bool .false)]))], CE.dropL [] s21.L ++ [(10928, (.row 83 5 5 .false 0 0 (CE.lt 0 [(.agg [(.ref (.slc 5761 0 4 4)), (.int .i64 (.ofNat 3)), (.int .u8 (.ofNat 2)), (.int .i64 (.ofNat 0)), (.bool .false)])])))], 10929, []⟩

def s23 : CE.Snap := ⟨CE.setE s22.es [(8, (.c (.ref (.ptr 11718 0)))),
  (159, (.c (.ref (.ptr 10928 0)))),
  (161, (.c (.ref (.ptr 10928 2)))),
  (162, (.c (.int .u8 (.ofNat 2)))),
  (163, (.c (.ref (.ptr 10928 3)))),
  (164, (.c (.int .i64 (.ofNat 0))))], CE.dropL [10927] s22.L ++ [(11718, (.row 34 2 2 .false 0 0 (CE.lt 0 [(.agg [(.ref .nils), (.int .i64 (.ofNat 0))])])))], 11719, []⟩

def s24 : CE.Snap := ⟨CE.setE s23.es [(169, (.c (.ref (.ptr 10928 4))))], CE.dropL [10138] s23.L ++ [], 11719, []⟩

def s25 : CE.Snap := ⟨CE.setE s24.es [(154, (.c (.int .i64 (.ofNat 3)))),
  (183, (.c (.int .i64 (.ofNat 3))))], CE.dropL [] s24.L ++ [], 11719, []⟩

def s26 : CE.Snap := ⟨CE.setE s25.es [], CE.dropL [] s25.L ++ [], 11719, []⟩

def s27 : CE.Snap := ⟨CE.setE s26.es [], CE.dropL [] s26.L ++ [], 11719, []⟩

def s28 : CE.Snap := ⟨CE.setE s27.es [(7, (.c (.ref (.ptr 11719 0)))),
  (156, (.c (.ref (.ptr 9347 15)))),
  (157, (.agg [(.ref (.slc 5761 0 4 4)), (.int .i64 (.ofNat 3)), (.int .u8 (.ofNat 3)), (.int .i64 (.ofNat 2)), (.bool .false)]))], CE.dropL [] s27.L ++ [(11719, (.row 83 5 5 .false 0 0 (CE.lt 0 [(.agg [(.ref (.slc 5761 0 4 4)), (.int .i64 (.ofNat 3)), (.int .u8 (.ofNat 3)), (.int .i64 (.ofNat 2)), (.bool .false)])])))], 11720, []⟩

def s29 : CE.Snap := ⟨CE.setE s28.es [(8, (.c (.ref (.ptr 12506 0)))),
  (159, (.c (.ref (.ptr 11719 0)))),
  (161, (.c (.ref (.ptr 11719 2)))),
  (162, (.c (.int .u8 (.ofNat 3)))),
  (163, (.c (.ref (.ptr 11719 3)))),
  (164, (.c (.int .i64 (.ofNat 2))))], CE.dropL [11718] s28.L ++ [(12506, (.row 34 2 2 .false 0 0 (CE.lt 0 [(.agg [(.ref .nils), (.int .i64 (.ofNat 0))])])))], 12507, []⟩

def s30 : CE.Snap := ⟨CE.setE s29.es [(169, (.c (.ref (.ptr 11719 4))))], CE.dropL [10928] s29.L ++ [], 12507, []⟩

def s31 : CE.Snap := ⟨CE.setE s30.es [(154, (.c (.int .i64 (.ofNat 4)))),
  (183, (.c (.int .i64 (.ofNat 4))))], CE.dropL [] s30.L ++ [], 12507, []⟩

def s32 : CE.Snap := ⟨CE.setE s31.es [], CE.dropL [] s31.L ++ [], 12507, []⟩

def s33 : CE.Snap := ⟨CE.setE s32.es [], CE.dropL [] s32.L ++ [], 12507, []⟩

def s34 : CE.Snap := ⟨CE.setE s33.es [(7, (.c (.ref (.ptr 12507 0)))),
  (156, (.c (.ref (.ptr 9347 20)))),
  (157, (.agg [(.ref (.slc 5761 0 4 4)), (.int .i64 (.ofNat 3)), (.int .u8 (.ofNat 0)), (.int .i64 (.ofNat 0)), (.bool .false)]))], CE.dropL [] s33.L ++ [(12507, (.row 83 5 5 .false 0 0 (CE.lt 0 [(.agg [(.ref (.slc 5761 0 4 4)), (.int .i64 (.ofNat 3)), (.int .u8 (.ofNat 0)), (.int .i64 (.ofNat 0)), (.bool .false)])])))], 12508, []⟩

def s35 : CE.Snap := ⟨CE.setE s34.es [(8, (.c (.ref (.ptr 13294 0)))),
  (159, (.c (.ref (.ptr 12507 0)))),
  (161, (.c (.ref (.ptr 12507 2)))),
  (162, (.c (.int .u8 (.ofNat 0)))),
  (163, (.c (.ref (.ptr 12507 3)))),
  (164, (.c (.int .i64 (.ofNat 0))))], CE.dropL [12506] s34.L ++ [(13294, (.row 34 2 2 .false 0 0 (CE.lt 0 [(.agg [(.ref .nils), (.int .i64 (.ofNat 0))])])))], 13295, []⟩

def s36 : CE.Snap := ⟨CE.setE s35.es [(169, (.c (.ref (.ptr 12507 4))))], CE.dropL [11719] s35.L ++ [], 13295, []⟩

def s37 : CE.Snap := ⟨CE.setE s36.es [(154, (.c (.int .i64 (.ofNat 5)))),
  (183, (.c (.int .i64 (.ofNat 5))))], CE.dropL [] s36.L ++ [], 13295, []⟩

def s38 : CE.Snap := ⟨CE.setE s37.es [], CE.dropL [] s37.L ++ [], 13295, []⟩

def s39 : CE.Snap := ⟨CE.setE s38.es [], CE.dropL [] s38.L ++ [], 13295, []⟩

def s40 : CE.Snap := ⟨CE.setE s39.es [(7, (.c (.ref (.ptr 13295 0)))),
  (156, (.c (.ref (.ptr 9347 25)))),
  (157, (.agg [(.ref (.slc 5761 0 4 4)), (.int .i64 (.ofNat 3)), (.int .u8 (.ofNat 4)), (.int .i64 (.ofNat 0)), (.bool .false)]))], CE.dropL [] s39.L ++ [(13295, (.row 83 5 5 .false 0 0 (CE.lt 0 [(.agg [(.ref (.slc 5761 0 4 4)), (.int .i64 (.ofNat 3)), (.int .u8 (.ofNat 4)), (.int .i64 (.ofNat 0)), (.bool .false)])])))], 13296, []⟩

def s41 : CE.Snap := ⟨CE.setE s40.es [(8, (.c (.ref (.ptr 14082 0)))),
  (159, (.c (.ref (.ptr 13295 0)))),
  (161, (.c (.ref (.ptr 13295 2)))),
  (162, (.c (.int .u8 (.ofNat 4)))),
  (163, (.c (.ref (.ptr 13295 3))))], CE.dropL [13294] s40.L ++ [(14082, (.row 34 2 2 .false 0 0 (CE.lt 0 [(.agg [(.ref .nils), (.int .i64 (.ofNat 0))])])))], 14083, []⟩

def s42 : CE.Snap := ⟨CE.setE s41.es [(169, (.c (.ref (.ptr 13295 4))))], CE.dropL [12507] s41.L ++ [], 14083, []⟩

def s43 : CE.Snap := ⟨CE.setE s42.es [(154, (.c (.int .i64 (.ofNat 6)))),
  (183, (.c (.int .i64 (.ofNat 6))))], CE.dropL [] s42.L ++ [], 14083, []⟩

def s44 : CE.Snap := ⟨CE.setE s43.es [], CE.dropL [] s43.L ++ [], 14083, []⟩

def s45 : CE.Snap := ⟨CE.setE s44.es [], CE.dropL [] s44.L ++ [], 14083, []⟩

def s46 : CE.Snap := ⟨CE.setE s45.es [(7, (.c (.ref (.ptr 14083 0)))),
  (156, (.c (.ref (.ptr 9347 30)))),
  (157, (.agg [(.ref (.slc 5761 0 4 4)), (.int .i64 (.ofNat 3)), (.int .u8 (.ofNat 1)), (.int .i64 (.negSucc 0)), (.bool .false)]))], CE.dropL [] s45.L ++ [(14083, (.row 83 5 5 .false 0 0 (CE.lt 0 [(.agg [(.ref (.slc 5761 0 4 4)), (.int .i64 (.ofNat 3)), (.int .u8 (.ofNat 1)), (.int .i64 (.negSucc 0)), (.bool .false)])])))], 14084, []⟩

def s47 : CE.Snap := ⟨CE.setE s46.es [(8, (.c (.ref (.ptr 14870 0)))),
  (159, (.c (.ref (.ptr 14083 0)))),
  (161, (.c (.ref (.ptr 14083 2)))),
  (162, (.c (.int .u8 (.ofNat 1)))),
  (163, (.c (.ref (.ptr 14083 3)))),
  (164, (.c (.int .i64 (.negSucc 0))))], CE.dropL [14082] s46.L ++ [(14870, (.row 34 2 2 .false 0 0 (CE.lt 0 [(.agg [(.ref .nils), (.int .i64 (.ofNat 0))])])))], 14871, []⟩

def s48 : CE.Snap := ⟨CE.setE s47.es [(169, (.c (.ref (.ptr 14083 4))))], CE.dropL [13295] s47.L ++ [], 14871, []⟩

def s49 : CE.Snap := ⟨CE.setE s48.es [(154, (.c (.int .i64 (.ofNat 7)))),
  (183, (.c (.int .i64 (.ofNat 7))))], CE.dropL [] s48.L ++ [], 14871, []⟩

def s50 : CE.Snap := ⟨CE.setE s49.es [], CE.dropL [] s49.L ++ [], 14871, []⟩

def s51 : CE.Snap := ⟨CE.setE s50.es [], CE.dropL [] s50.L ++ [], 14871, []⟩

def s52 : CE.Snap := ⟨CE.setE s51.es [(7, (.c (.ref (.ptr 14871 0)))),
  (156, (.c (.ref (.ptr 9347 35)))),
  (157, (.agg [(.ref (.slc 5761 0 4 4)), (.int .i64 (.ofNat 3)), (.int .u8 (.ofNat 2)), (.int .i64 (.ofNat 3)), (.bool .false)]))], CE.dropL [] s51.L ++ [(14871, (.row 83 5 5 .false 0 0 (CE.lt 0 [(.agg [(.ref (.slc 5761 0 4 4)), (.int .i64 (.ofNat 3)), (.int .u8 (.ofNat 2)), (.int .i64 (.ofNat 3)), (.bool .false)])])))], 14872, []⟩

def s53 : CE.Snap := ⟨CE.setE s52.es [(8, (.c (.ref (.ptr 15658 0)))),
  (159, (.c (.ref (.ptr 14871 0)))),
  (161, (.c (.ref (.ptr 14871 2)))),
  (162, (.c (.int .u8 (.ofNat 2)))),
  (163, (.c (.ref (.ptr 14871 3)))),
  (164, (.c (.int .i64 (.ofNat 3))))], CE.dropL [14870] s52.L ++ [(15658, (.row 34 2 2 .false 0 0 (CE.lt 0 [(.agg [(.ref .nils), (.int .i64 (.ofNat 0))])])))], 15659, []⟩

def s54 : CE.Snap := ⟨CE.setE s53.es [(169, (.c (.ref (.ptr 14871 4))))], CE.dropL [14083] s53.L ++ [], 15659, []⟩

def s55 : CE.Snap := ⟨CE.setE s54.es [(154, (.c (.int .i64 (.ofNat 8)))),
  (183, (.c (.int .i64 (.ofNat 8))))], CE.dropL [] s54.L ++ [], 15659, []⟩

def s56 : CE.Snap := ⟨CE.setE s55.es [], CE.dropL [] s55.L ++ [], 15659, []⟩

def s57 : CE.Snap := ⟨CE.setE s56.es [], CE.dropL [] s56.L ++ [], 15659, []⟩

def s58 : CE.Snap := ⟨CE.setE s57.es [(7, (.c (.ref (.ptr 15659 0)))),
  (156, (.c (.ref (.ptr 9347 40)))),
  (157, (.agg [(.ref (.slc 8199 0 3 3)), (.int .i64 (.ofNat 2)), (.int .u8 (.ofNat 3)), (.int .i64 (.ofNat 1)), (.bool .false)]))], CE.dropL [] s57.L ++ [(15659, (.row 83 5 5 .false 0 0 (CE.lt 0 [(.agg [(.ref (.slc 8199 0 3 3)), (.int .i64 (.ofNat 2)), (.int .u8 (.ofNat 3)), (.int .i64 (.ofNat 1)), (.bool .false)])])))], 15660, []⟩

def s59 : CE.Snap := ⟨CE.setE s58.es [(8, (.c (.ref (.ptr 16312 0)))),
  (159, (.c (.ref (.ptr 15659 0)))),
  (160, (.agg [(.ref (.slc 8199 0 3 3)), (.int .i64 (.ofNat 2))])),
  (161, (.c (.ref (.ptr 15659 2)))),
  (162, (.c (.int .u8 (.ofNat 3)))),
  (163, (.c (.ref (.ptr 15659 3)))),
  (164, (.c (.int .i64 (.ofNat 1))))], CE.dropL [15658] s58.L ++ [(16312, (.row 34 2 2 .false 0 0 (CE.lt 0 [(.agg [(.ref .nils), (.int .i64 (.ofNat 0))])])))], 16313, []⟩

def s60 : CE.Snap := ⟨CE.setE s59.es [(169, (.c (.ref (.ptr 15659 4))))], CE.dropL [14871] s59.L ++ [], 16313, []⟩

def s61 : CE.Snap := ⟨CE.setE s60.es [(154, (.c (.int .i64 (.ofNat 9)))),
  (183, (.c (.int .i64 (.ofNat 9))))], CE.dropL [] s60.L ++ [], 16313, []⟩

def s62 : CE.Snap := ⟨CE.setE s61.es [], CE.dropL [] s61.L ++ [], 16313, []⟩

def s63 : CE.Snap := ⟨CE.setE s62.es [], CE.dropL [] s62.L ++ [], 16313, []⟩

def s64 : CE.Snap := ⟨CE.setE s63.es [(7, (.c (.ref (.ptr 16313 0)))),
  (156, (.c (.ref (.ptr 9347 45)))),
  (157, (.agg [(.ref (.slc 8266 0 3 3)), (.int .i64 (.ofNat 2)), (.int .u8 (.ofNat 3)), (.int .i64 (.ofNat 0)), (.bool .true)]))], CE.dropL [] s63.L ++ [(16313, (.row 83 5 5 .false 0 0 (CE.lt 0 [(.agg [(.ref (.slc 8266 0 3 3)), (.int .i64 (.ofNat 2)), (.int .u8 (.ofNat 3)), (.int .i64 (.ofNat 0)), (.bool .true)])])))], 16314, []⟩

def s65 : CE.Snap := ⟨CE.setE s64.es [(8, (.c (.ref (.ptr 17294 0)))),
  (9, (.c (.bool .true))),
  (158, (.tup [(.agg [(.ref (.slc 17165 0 1 1)), (.int .i64 (.ofNat 0))]), (.c (.bool .true))])),
  (159, (.c (.ref (.ptr 16313 0)))),
  (160, (.agg [(.ref (.slc 8266 0 3 3)), (.int .i64 (.ofNat 2))])),
  (161, (.c (.ref (.ptr 16313 2)))),
  (163, (.c (.ref (.ptr 16313 3)))),
  (164, (.c (.int .i64 (.ofNat 0)))),
  (165, (.tup [(.agg [(.ref (.slc 17165 0 1 1)), (.int .i64 (.ofNat 0))]), (.c (.bool .true))])),
  (166, (.agg [(.ref (.slc 17165 0 1 1)), (.int .i64 (.ofNat 0))])),
  (167, (.c (.bool .true)))], CE.dropL [16312] s64.L ++ [(17165, (.row 49 9 9 .true 1 0 (CE.lt 0 [(.agg [(.int .u8 (.ofNat 1)), (.int .u64 (.ofNat 0)), (.int .u64 (.ofNat 0)), (.int .u64 (.ofNat 0)), (.int .u64 (.ofNat 0)), (.str []), (.int .i64 (.ofNat 0)), (.int .i64 (.ofNat 0)), (.ref .nils)])]))),
  (17294, (.row 34 2 2 .false 0 0 (CE.lt 0 [(.agg [(.ref (.slc 17165 0 1 1)), (.int .i64 (.ofNat 0))])])))], 17295, []⟩

def s66 : CE.Snap := ⟨CE.setE s65.es [(168, (.c (.bool .true))),
  (169, (.c (.ref (.ptr 16313 4)))),
  (170, (.c (.bool .true))),
  (173, (.c (.bool .true))),
  (174, (.c (.bool .true))),
  (175, (.agg [(.ref (.slc 17165 0 1 1)), (.int .i64 (.ofNat 0))])),
  (176, (.c (.int .i64 (.ofNat 1)))),
  (177, (.c (.ref (.ptr 16313 0)))),
  (178, (.agg [(.ref (.slc 8266 0 3 3)), (.int .i64 (.ofNat 2))])),
  (179, (.c (.int .i64 (.ofNat 3)))),
  (180, (.c (.bool .false)))], CE.dropL [15659] s65.L ++ [], 17309, []⟩

def s67 : CE.Snap := ⟨CE.setE s66.es [(154, (.c (.int .i64 (.ofNat 10)))),
  (183, (.c (.int .i64 (.ofNat 10))))], CE.dropL [] s66.L ++ [], 17309, []⟩

def s68 : CE.Snap := ⟨CE.setE s67.es [], CE.dropL [] s67.L ++ [], 17309, []⟩

def s69 : CE.Snap := ⟨CE.setE s68.es [], CE.dropL [] s68.L ++ [], 17309, []⟩

def s70 : CE.Snap := ⟨CE.setE s69.es [(7, (.c (.ref (.ptr 17309 0)))),
  (156, (.c (.ref (.ptr 9347 50)))),
  (157, (.agg [(.ref (.slc 8395 0 4 4)), (.int .i64 (.ofNat 3)), (.int .u8 (.ofNat 3)), (.int .i64 (.ofNat 0)), (.bool .true)]))], CE.dropL [] s69.L ++ [(17309, (.row 83 5 5 .false 0 0 (CE.lt 0 [(.agg [(.ref (.slc 8395 0 4 4)), (.int .i64 (.ofNat 3)), (.int .u8 (.ofNat 3)), (.int .i64 (.ofNat 0)), (.bool .true)])])))], 17310, []⟩

def s71 : CE.Snap := ⟨CE.setE s70.es [(8, (.c (.ref (.ptr 18495 0)))),
  (158, (.tup [(.agg [(.ref (.slc 18327 0 2 2)), (.int .i64 (.ofNat 1))]), (.c (.bool .true))])),
  (159, (.c (.ref (.ptr 17309 0)))),
  (160, (.agg [(.ref (.slc 8395 0 4 4)), (.int .i64 (.ofNat 3))])),
  (161, (.c (.ref (.ptr 17309 2)))),
  (163, (.c (.ref (.ptr 17309 3)))),
  (165, (.tup [(.agg [(.ref (.slc 18327 0 2 2)), (.int .i64 (.ofNat 1))]), (.c (.bool .true))])),
  (166, (.agg [(.ref (.slc 18327 0 2 2)), (.int .i64 (.ofNat 1))]))], CE.dropL [17294] s70.L ++ [(18325, (.row 3 1 1 .true 1 0 (CE.lt 0 [(.c (.int .i64 (.ofNat 0)))]))),
  (18327, (.row 49 18 9 .true 1 1 (CE.lt 1 [(.agg [(.int .u8 (.ofNat 0)), (.int .u64 (.ofNat 0)), (.int .u64 (.ofNat 0)), (.int .u64 (.ofNat 0)), (.int .u64 (.ofNat 0)), (.str []), (.int .i64 (.ofNat 0)), (.int .i64 (.ofNat 0)), (.ref .nils)]), (.agg [(.int .u8 (.ofNat 8)), (.int .u64 (.ofNat 0)), (.int .u64 (.ofNat 0)), (.int .u64 (.ofNat 0)), (.int .u64 (.ofNat 0)), (.str []), (.int .i64 (.ofNat 0)), (.int .i64 (.ofNat 0)), (.ref (.slc 18325 0 1 1))])]))),
  (18495, (.row 34 2 2 .false 0 0 (CE.lt 0 [(.agg [(.ref (.slc 18327 0 2 2)), (.int .i64 (.ofNat 1))])])))], 18496, []⟩

def s72 : CE.Snap := ⟨CE.setE s71.es [(169, (.c (.ref (.ptr 17309 4)))),
  (175, (.agg [(.ref (.slc 18327 0 2 2)), (.int .i64 (.ofNat 1))])),
  (176, (.c (.int .i64 (.ofNat 2)))),
  (177, (.c (.ref (.ptr 17309 0)))),
  (178, (.agg [(.ref (.slc 8395 0 4 4)), (.int .i64 (.ofNat 3))])),
  (179, (.c (.int .i64 (.ofNat 4))))], CE.dropL [16313, 17165] s71.L ++ [], 18514, []⟩

def s73 : CE.Snap := ⟨CE.setE s72.es [(154, (.c (.int .i64 (.ofNat 11)))),
  (183, (.c (.int .i64 (.ofNat 11))))], CE.dropL [] s72.L ++ [], 18514, []⟩

def s74 : CE.Snap := ⟨CE.setE s73.es [], CE.dropL [] s73.L ++ [], 18514, []⟩

def s75 : CE.Snap := ⟨CE.setE s74.es [], CE.dropL [] s74.L ++ [], 18514, []⟩

def s76 : CE.Snap := ⟨CE.setE s75.es [(7, (.c (.ref (.ptr 18514 0)))),
  (156, (.c (.ref (.ptr 9347 55)))),
  (157, (.agg [(.ref (.slc 8548 0 5 5)), (.int .i64 (.ofNat 4)), (.int .u8 (.ofNat 3)), (.int .i64 (.ofNat 0)), (.bool .true)]))], CE.dropL [] s75.L ++ [(18514, (.row 83 5 5 .false 0 0 (CE.lt 0 [(.agg [(.ref (.slc 8548 0 5 5)), (.int .i64 (.ofNat 4)), (.int .u8 (.ofNat 3)), (.int .i64 (.ofNat 0)), (.bool .true)])])))], 18515, []⟩

def s77 : CE.Snap := ⟨CE.setE s76.es [(8, (.c (.ref (.ptr 19915 0)))),
  (158, (.tup [(.agg [(.ref (.slc 19738 0 2 2)), (.int .i64 (.ofNat 1))]), (.c (.bool .true))])),
  (159, (.c (.ref (.ptr 18514 0)))),
  (160, (.agg [(.ref (.slc 8548 0 5 5)), (.int .i64 (.ofNat 4))])),
  (161, (.c (.ref (.ptr 18514 2)))),
  (163, (.c (.ref (.ptr 18514 3)))),
  (165, (.tup [(.agg [(.ref (.slc 19738 0 2 2)), (.int .i64 (.ofNat 1))]), (.c (.bool .true))])),
  (166, (.agg [(.ref (.slc 19738 0 2 2)), (.int .i64 (.ofNat 1))]))], CE.dropL [18495] s76.L ++ [(19736, (.row 3 1 1 .true 1 0 (CE.lt 0 [(.c (.int .i64 (.ofNat 0)))]))),
  (19738, (.row 49 18 9 .true 1 1 (CE.lt 1 [(.agg [(.int .u8 (.ofNat 1)), (.int .u64 (.ofNat 0)), (.int .u64 (.ofNat 0)), (.int .u64 (.ofNat 0)), (.int .u64 (.ofNat 0)), (.str []), (.int .i64 (.ofNat 0)), (.int .i64 (.ofNat 0)), (.ref .nils)]), (.agg [(.int .u8 (.ofNat 7)), (.int .u64 (.ofNat 0)), (.int .u64 (.ofNat 0)), (.int .u64 (.ofNat 0)), (.int .u64 (.ofNat 0)), (.str []), (.int .i64 (.ofNat 0)), (.int .i64 (.ofNat 0)), (.ref (.slc 19736 0 1 1))])]))),
  (19915, (.row 34 2 2 .false 0 0 (CE.lt 0 [(.agg [(.ref (.slc 19738 0 2 2)), (.int .i64 (.ofNat 1))])])))], 19916, []⟩

def s78 : CE.Snap := ⟨CE.setE s77.es [(169, (.c (.ref (.ptr 18514 4)))),
  (175, (.agg [(.ref (.slc 19738 0 2 2)), (.int .i64 (.ofNat 1))])),
  (177, (.c (.ref (.ptr 18514 0)))),
  (178, (.agg [(.ref (.slc 8548 0 5 5)), (.int .i64 (.ofNat 4))])),
  (179, (.c (.int .i64 (.ofNat 5))))], CE.dropL [17309, 18325, 18327] s77.L ++ [], 19936, []⟩

def s79 : CE.Snap := ⟨CE.setE s78.es [(154, (.c (.int .i64 (.ofNat 12)))),
  (183, (.c (.int .i64 (.ofNat 12))))], CE.dropL [] s78.L ++ [], 19936, []⟩

def s80 : CE.Snap := ⟨CE.setE s79.es [], CE.dropL [] s79.L ++ [], 19936, []⟩

def s81 : CE.Snap := ⟨CE.setE s80.es [], CE.dropL [] s80.L ++ [], 19936, []⟩

def s82 : CE.Snap := ⟨CE.setE s81.es [(7, (.c (.ref (.ptr 19936 0)))),
  (156, (.c (.ref (.ptr 9347 60)))),
  (157, (.agg [(.ref (.slc 8701 0 5 5)), (.int .i64 (.ofNat 4)), (.int .u8 (.ofNat 1)), (.int .i64 (.ofNat 1)), (.bool .true)]))], CE.dropL [] s81.L ++ [(19936, (.row 83 5 5 .false 0 0 (CE.lt 0 [(.agg [(.ref (.slc 8701 0 5 5)), (.int .i64 (.ofNat 4)), (.int .u8 (.ofNat 1)), (.int .i64 (.ofNat 1)), (.bool .true)])])))], 19937, []⟩

def s83 : CE.Snap := ⟨CE.setE s82.es [(8, (.c (.ref (.ptr 21501 0)))),
  (158, (.tup [(.agg [(.ref (.slc 21229 0 4 4)), (.int .i64 (.ofNat 3))]), (.c (.bool .true))])),
  (159, (.c (.ref (.ptr 19936 0)))),
  (160, (.agg [(.ref (.slc 8701 0 5 5)), (.int .i64 (.ofNat 4))])),
  (161, (.c (.ref (.ptr 19936 2)))),
  (162, (.c (.int .u8 (.ofNat 1)))),
  (163, (.c (.ref (.ptr 19936 3)))),
  (164, (.c (.int .i64 (.ofNat 1)))),
  (165, (.tup [(.agg [(.ref (.slc 21229 0 4 4)), (.int .i64 (.ofNat 3))]), (.c (.bool .true))])),
  (166, (.agg [(.ref (.slc 21229 0 4 4)), (.int .i64 (.ofNat 3))]))], CE.dropL [19915] s82.L ++ [(21223, (.row 3 1 1 .true 1 0 (CE.lt 0 [(.c (.int .i64 (.ofNat 1)))]))),
  (21227, (.row 3 2 1 .true 1 1 (CE.lt 1 [(.c (.int .i64 (.ofNat 0))), (.c (.int .i64 (.ofNat 2)))]))),
  (21229, (.row 49 36 9 .true 1 1 (CE.lt 1 [(.agg [(.int .u8 (.ofNat 2)), (.int .u64 (.ofNat 0)), (.int .u64 (.ofNat 0)), (.int .u64 (.ofNat 0)), (.int .u64 (.ofNat 0)), (.str [120]), (.int .i64 (.ofNat 0)), (.int .i64 (.ofNat 0)), (.ref .nils)]), (.agg [(.int .u8 (.ofNat 2)), (.int .u64 (.ofNat 0)), (.int .u64 (.ofNat 0)), (.int .u64 (.ofNat 0)), (.int .u64 (.ofNat 0)), (.str [121]), (.int .i64 (.ofNat 0)), (.int .i64 (.ofNat 0)), (.ref .nils)]), (.agg [(.int .u8 (.ofNat 6)), (.int .u64 (.ofNat 0)), (.int .u64 (.ofNat 0)), (.int .u64 (.ofNat 0)), (.int .u64 (.ofNat 0)), (.str []), (.int .i64 (.ofNat 0)), (.int .i64 (.ofNat 0)), (.ref (.slc 21223 0 1 1))]), (.agg [(.int .u8 (.ofNat 5)), (.int .u64 (.ofNat 0)), (.int .u64 (.ofNat 0)), (.int .u64 (.ofNat 0)), (.int .u64 (.ofNat 0)), (.str []), (.int .i64 (.ofNat 0)), (.int .i64 (.ofNat 0)), (.ref (.slc 21227 0 2 2))])]))),
  (21501, (.row 34 2 2 .false 0 0 (CE.lt 0 [(.agg [(.ref (.slc 21229 0 4 4)), (.int .i64 (.ofNat 3))])])))], 21502, []⟩

def s84 : CE.Snap := ⟨CE.setE s83.es [(169, (.c (.ref (.ptr 19936 4)))),
  (175, (.agg [(.ref (.slc 21229 0 4 4)), (.int .i64 (.ofNat 3))])),
  (176, (.c (.int .i64 (.ofNat 4)))),
  (177, (.c (.ref (.ptr 19936 0)))),
  (178, (.agg [(.ref (.slc 8701 0 5 5)), (.int .i64 (.ofNat 4))]))], CE.dropL [18514, 19736, 19738] s83.L ++ [], 21526, []⟩

def s85 : CE.Snap := ⟨CE.setE s84.es [(154, (.c (.int .i64 (.ofNat 13)))),
  (183, (.c (.int .i64 (.ofNat 13))))], CE.dropL [] s84.L ++ [], 21526, []⟩

def s86 : CE.Snap := ⟨CE.setE s85.es [], CE.dropL [] s85.L ++ [], 21526, []⟩

def s87 : CE.Snap := ⟨CE.setE s86.es [], CE.dropL [] s86.L ++ [], 21526, []⟩

def s88 : CE.Snap := ⟨CE.setE s87.es [(7, (.c (.ref (.ptr 21526 0)))),
  (156, (.c (.ref (.ptr 9347 65)))),
  (157, (.agg [(.ref (.slc 8826 0 4 4)), (.int .i64 (.ofNat 3)), (.int .u8 (.ofNat 1)), (.int .i64 (.ofNat 0)), (.bool .true)]))], CE.dropL [] s87.L ++ [(21526, (.row 83 5 5 .false 0 0 (CE.lt 0 [(.agg [(.ref (.slc 8826 0 4 4)), (.int .i64 (.ofNat 3)), (.int .u8 (.ofNat 1)), (.int .i64 (.ofNat 0)), (.bool .true)])])))], 21527, []⟩

def s89 : CE.Snap := ⟨CE.setE s88.es [(8, (.c (.ref (.ptr 22738 0)))),
  (158, (.tup [(.agg [(.ref (.slc 22561 0 2 2)), (.int .i64 (.ofNat 1))]), (.c (.bool .true))])),
  (159, (.c (.ref (.ptr 21526 0)))),
  (160, (.agg [(.ref (.slc 8826 0 4 4)), (.int .i64 (.ofNat 3))])),
  (161, (.c (.ref (.ptr 21526 2)))),
  (163, (.c (.ref (.ptr 21526 3)))),
  (164, (.c (.int .i64 (.ofNat 0)))),
  (165, (.tup [(.agg [(.ref (.slc 22561 0 2 2)), (.int .i64 (.ofNat 1))]), (.c (.bool .true))])),
  (166, (.agg [(.ref (.slc 22561 0 2 2)), (.int .i64 (.ofNat 1))]))], CE.dropL [21501] s88.L ++ [(22559, (.row 3 1 1 .true 1 0 (CE.lt 0 [(.c (.int .i64 (.ofNat 0)))]))),
  (22561, (.row 49 18 9 .true 1 1 (CE.lt 1 [(.agg [(.int .u8 (.ofNat 1)), (.int .u64 (.ofNat 0)), (.int .u64 (.ofNat 0)), (.int .u64 (.ofNat 0)), (.int .u64 (.ofNat 0)), (.str []), (.int .i64 (.ofNat 0)), (.int .i64 (.ofNat 0)), (.ref .nils)]), (.agg [(.int .u8 (.ofNat 8)), (.int .u64 (.ofNat 0)), (.int .u64 (.ofNat 0)), (.int .u64 (.ofNat 0)), (.int .u64 (.ofNat 0)), (.str []), (.int .i64 (.ofNat 0)), (.int .i64 (.ofNat 0)), (.ref (.slc 22559 0 1 1))])]))),
  (22738, (.row 34 2 2 .false 0 0 (CE.lt 0 [(.agg [(.ref (.slc 22561 0 2 2)), (.int .i64 (.ofNat 1))])])))], 22739, []⟩

def s90 : CE.Snap := ⟨CE.setE s89.es [(169, (.c (.ref (.ptr 21526 4)))),
  (175, (.agg [(.ref (.slc 22561 0 2 2)), (.int .i64 (.ofNat 1))])),
  (176, (.c (.int .i64 (.ofNat 2)))),
  (177, (.c (.ref (.ptr 21526 0)))),
  (178, (.agg [(.ref (.slc 8826 0 4 4)), (.int .i64 (.ofNat 3))])),
  (179, (.c (.int .i64 (.ofNat 4))))], CE.dropL [19936, 21223, 21227, 21229] s89.L ++ [], 22757, []⟩

def s91 : CE.Snap := ⟨CE.setE s90.es [(154, (.c (.int .i64 (.ofNat 14)))),
  (183, (.c (.int .i64 (.ofNat 14))))], CE.dropL [] s90.L ++ [], 22757, []⟩

def s92 : CE.Snap := ⟨CE.setE s91.es [], CE.dropL [] s91.L ++ [], 22757, []⟩

def s93 : CE.Snap := ⟨CE.setE s92.es [], CE.dropL [] s92.L ++ [], 22757, []⟩

def s94 : CE.Snap := ⟨CE.setE s93.es [(7, (.c (.ref (.ptr 22757 0)))),
  (156, (.c (.ref (.ptr 9347 70)))),
  (157, (.agg [(.ref (.slc 8951 0 4 4)), (.int .i64 (.ofNat 3)), (.int .u8 (.ofNat 2)), (.int .i64 (.ofNat 0)), (.bool .true)]))], CE.dropL [] s93.L ++ [(22757, (.row 83 5 5 .false 0 0 (CE.lt 0 [(.agg [(.ref (.slc 8951 0 4 4)), (.int .i64 (.ofNat 3)), (.int .u8 (.ofNat 2)), (.int .i64 (.ofNat 0)), (.bool .true)])])))], 22758, []⟩

def s95 : CE.Snap := ⟨CE.setE s94.es [(8, (.c (.ref (.ptr 23889 0)))),
  (158, (.tup [(.agg [(.ref (.slc 23768 0 1 1)), (.int .i64 (.ofNat 0))]), (.c (.bool .true))])),
  (159, (.c (.ref (.ptr 22757 0)))),
  (160, (.agg [(.ref (.slc 8951 0 4 4)), (.int .i64 (.ofNat 3))])),
  (161, (.c (.ref (.ptr 22757 2)))),
  (162, (.c (.int .u8 (.ofNat 2)))),
  (163, (.c (.ref (.ptr 22757 3)))),
  (165, (.tup [(.agg [(.ref (.slc 23768 0 1 1)), (.int .i64 (.ofNat 0))]), (.c (.bool .true))])),
  (166, (.agg [(.ref (.slc 23768 0 1 1)), (.int .i64 (.ofNat 0))]))], CE.dropL [22738] s94.L ++ [(23768, (.row 49 9 9 .true 1 0 (CE.lt 0 [(.agg [(.int .u8 (.ofNat 2)), (.int .u64 (.ofNat 0)), (.int .u64 (.ofNat 0)), (.int .u64 (.ofNat 0)), (.int .u64 (.ofNat 0)), (.str [121]), (.int .i64 (.ofNat 0)), (.int .i64 (.ofNat 0)), (.ref .nils)])]))),
  (23889, (.row 34 2 2 .false 0 0 (CE.lt 0 [(.agg [(.ref (.slc 23768 0 1 1)), (.int .i64 (.ofNat 0))])])))], 23890, []⟩

def s96 : CE.Snap := ⟨CE.setE s95.es [(169, (.c (.ref (.ptr 22757 4)))),
  (175, (.agg [(.ref (.slc 23768 0 1 1)), (.int .i64 (.ofNat 0))])),
  (176, (.c (.int .i64 (.ofNat 1)))),
  (177, (.c (.ref (.ptr 22757 0)))),
  (178, (.agg [(.ref (.slc 8951 0 4 4)), (.int .i64 (.ofNat 3))]))], CE.dropL [21526, 22559, 22561] s95.L ++ [], 23906, []⟩

def s97 : CE.Snap := ⟨CE.setE s96.es [(154, (.c (.int .i64 (.ofNat 15)))),
  (183, (.c (.int .i64 (.ofNat 15))))], CE.dropL [] s96.L ++ [], 23906, []⟩

def s98 : CE.Snap := ⟨CE.setE s97.es [], CE.dropL [] s97.L ++ [], 23906, []⟩

def s99 : CE.Snap := ⟨CE.setE s98.es [], CE.dropL [] s98.L ++ [], 23906, []⟩

def s100 : CE.Snap := ⟨CE.setE s99.es [(7, (.c (.ref (.ptr 23906 0)))),
  (156, (.c (.ref (.ptr 9347 75)))),
  (157, (.agg [(.ref (.slc 9180 0 6 6)), (.int .i64 (.ofNat 5)), (.int .u8 (.ofNat 2)), (.int .i64 (.ofNat 2)), (.bool .true)]))], CE.dropL [] s99.L ++ [(23906, (.row 83 5 5 .false 0 0 (CE.lt 0 [(.agg [(.ref (.slc 9180 0 6 6)), (.int .i64 (.ofNat 5)), (.int .u8 (.ofNat 2)), (.int .i64 (.ofNat 2)), (.bool .true)])])))], 23907, []⟩

def s101 : CE.Snap := ⟨CE.setE s100.es [(8, (.c (.ref (.ptr 25543 0)))),
  (158, (.tup [(.agg [(.ref (.slc 25317 0 3 3)), (.int .i64 (.ofNat 2))]), (.c (.bool .true))])),
  (159, (.c (.ref (.ptr 23906 0)))),
  (160, (.agg [(.ref (.slc 9180 0 6 6)), (.int .i64 (.ofNat 5))])),
  (161, (.c (.ref (.ptr 23906 2)))),
  (163, (.c (.ref (.ptr 23906 3)))),
  (164, (.c (.int .i64 (.ofNat 2)))),
  (165, (.tup [(.agg [(.ref (.slc 25317 0 3 3)), (.int .i64 (.ofNat 2))]), (.c (.bool .true))])),
  (166, (.agg [(.ref (.slc 25317 0 3 3)), (.int .i64 (.ofNat 2))]))], CE.dropL [23889] s100.L ++ [(25315, (.row 3 2 1 .true 1 1 (CE.lt 1 [(.c (.int .i64 (.ofNat 0))), (.c (.int .i64 (.ofNat 1)))]))),
  (25317, (.row 49 27 9 .true 1 1 (CE.lt 1 [(.agg [(.int .u8 (.ofNat 2)), (.int .u64 (.ofNat 0)), (.int .u64 (.ofNat 0)), (.int .u64 (.ofNat 0)), (.int .u64 (.ofNat 0)), (.str [120]), (.int .i64 (.ofNat 0)), (.int .i64 (.ofNat 0)), (.ref .nils)]), (.agg [(.int .u8 (.ofNat 2)), (.int .u64 (.ofNat 0)), (.int .u64 (.ofNat 0)), (.int .u64 (.ofNat 0)), (.int .u64 (.ofNat 0)), (.str [121]), (.int .i64 (.ofNat 0)), (.int .i64 (.ofNat 0)), (.ref .nils)]), (.agg [(.int .u8 (.ofNat 5)), (.int .u64 (.ofNat 0)), (.int .u64 (.ofNat 0)), (.int .u64 (.ofNat 0)), (.int .u64 (.ofNat 0)), (.str []), (.int .i64 (.ofNat 0)), (.int .i64 (.ofNat 0)), (.ref (.slc 25315 0 2 2))])]))),
  (25543, (.row 34 2 2 .false 0 0 (CE.lt 0 [(.agg [(.ref (.slc 25317 0 3 3)), (.int .i64 (.ofNat 2))])])))], 25544, []⟩

def s102 : CE.Snap := ⟨CE.setE s101.es [(169, (.c (.ref (.ptr 23906 4)))),
  (175, (.agg [(.ref (.slc 25317 0 3 3)), (.int .i64 (.ofNat 2))])),
  (176, (.c (.int .i64 (.ofNat 3)))),
  (177, (.c (.ref (.ptr 23906 0)))),
  (178, (.agg [(.ref (.slc 9180 0 6 6)), (.int .i64 (.ofNat 5))])),
  (179, (.c (.int .i64 (.ofNat 6))))], CE.dropL [22757, 23768] s101.L ++ [], 25568, []⟩

def s103 : CE.Snap := ⟨CE.setE s102.es [(154, (.c (.int .i64 (.ofNat 16)))),
  (183, (.c (.int .i64 (.ofNat 16))))], CE.dropL [] s102.L ++ [], 25568, []⟩

def s104 : CE.Snap := ⟨CE.setE s103.es [], CE.dropL [] s103.L ++ [], 25568, []⟩

def s105 : CE.Snap := ⟨CE.setE s104.es [], CE.dropL [] s104.L ++ [], 25568, []⟩

def s106 : CE.Snap := ⟨CE.setE s105.es [(7, (.c (.ref (.ptr 25568 0)))),
  (156, (.c (.ref (.ptr 9347 80)))),
  (157, (.agg [(.ref (.slc 9305 0 4 4)), (.int .i64 (.ofNat 3)), (.int .u8 (.ofNat 1)), (.int .i64 (.ofNat 1)), (.bool .false)]))], CE.dropL [] s105.L ++ [(25568, (.row 83 5 5 .false 0 0 (CE.lt 0 [(.agg [(.ref (.slc 9305 0 4 4)), (.int .i64 (.ofNat 3)), (.int .u8 (.ofNat 1)), (.int .i64 (.ofNat 1)), (.bool .false)])])))], 25569, []⟩

def s107 : CE.Snap := ⟨CE.setE s106.es [(8, (.c (.ref (.ptr 26335 0)))),
  (9, (.c (.bool .false))),
  (158, (.tup [(.agg [(.ref .nils), (.int .i64 (.ofNat 0))]), (.c (.bool .false))])),
  (159, (.c (.ref (.ptr 25568 0)))),
  (160, (.agg [(.ref (.slc 9305 0 4 4)), (.int .i64 (.ofNat 3))])),
  (161, (.c (.ref (.ptr 25568 2)))),
  (162, (.c (.int .u8 (.ofNat 1)))),
  (163, (.c (.ref (.ptr 25568 3)))),
  (164, (.c (.int .i64 (.ofNat 1)))),
  (165, (.tup [(.agg [(.ref .nils), (.int .i64 (.ofNat 0))]), (.c (.bool .false))])),
  (166, (.agg [(.ref .nils), (.int .i64 (.ofNat 0))])),
  (167, (.c (.bool .false)))], CE.dropL [25543] s106.L ++ [(26335, (.row 34 2 2 .false 0 0 (CE.lt 0 [(.agg [(.ref .nils), (.int .i64 (.ofNat 0))])])))], 26336, []⟩

def s108 : CE.Snap := ⟨CE.setE s107.es [(168, (.c (.bool .false))),
  (169, (.c (.ref (.ptr 25568 4)))),
  (170, (.c (.bool .false))),
  (173, (.c (.bool .false))),
  (174, (.c (.bool .false))),
  (175, (.tup [])),
  (176, (.tup [])),
  (177, (.tup [])),
  (178, (.tup [])),
  (179, (.tup [])),
  (180, (.tup []))], CE.dropL [23906, 25315, 25317] s107.L ++ [], 26336, []⟩

def s109 : CE.Snap := ⟨CE.setE s108.es [(154, (.c (.int .i64 (.ofNat 17)))),
  (183, (.c (.int .i64 (.ofNat 17))))], CE.dropL [] s108.L ++ [], 26336, []⟩

def s110 : CE.Snap := ⟨CE.setE s109.es [], CE.dropL [] s109.L ++ [], 26336, []⟩

def s111 : CE.Snap := ⟨CE.setE s110.es [], CE.dropL [] s110.L ++ [], 26336, []⟩

def s112 : CE.Snap := ⟨CE.setE s111.es [(7, (.c (.ref (.ptr 26336 0)))),
  (156, (.c (.ref (.ptr 9347 85)))),
  (157, (.agg [(.ref (.slc 9345 0 2 2)), (.int .i64 (.ofNat 1)), (.int .u8 (.ofNat 1)), (.int .i64 (.ofNat 0)), (.bool .false)]))], CE.dropL [] s111.L ++ [(26336, (.row 83 5 5 .false 0 0 (CE.lt 0 [(.agg [(.ref (.slc 9345 0 2 2)), (.int .i64 (.ofNat 1)), (.int .u8 (.ofNat 1)), (.int .i64 (.ofNat 0)), (.bool .false)])])))], 26337, []⟩

def s113 : CE.Snap := ⟨CE.setE s112.es [(8, (.c (.ref (.ptr 26800 0)))),
  (159, (.c (.ref (.ptr 26336 0)))),
  (160, (.agg [(.ref (.slc 9345 0 2 2)), (.int .i64 (.ofNat 1))])),
  (161, (.c (.ref (.ptr 26336 2)))),
  (163, (.c (.ref (.ptr 26336 3)))),
  (164, (.c (.int .i64 (.ofNat 0))))], CE.dropL [26335] s112.L ++ [(26800, (.row 34 2 2 .false 0 0 (CE.lt 0 [(.agg [(.ref .nils), (.int .i64 (.ofNat 0))])])))], 26801, []⟩

def s114 : CE.Snap := ⟨CE.setE s113.es [(169, (.c (.ref (.ptr 26336 4))))], CE.dropL [25568] s113.L ++ [], 26801, []⟩

def s115 : CE.Snap := ⟨CE.setE s114.es [(154, (.c (.int .i64 (.ofNat 18)))),
  (183, (.c (.int .i64 (.ofNat 18))))], CE.dropL [] s114.L ++ [], 26801, []⟩

def s116 : CE.Snap := ⟨CE.setE s115.es [(155, (.c (.bool .false)))], CE.dropL [] s115.L ++ [], 26801, []⟩

def s117 : CE.Snap := ⟨CE.setE s116.es [(10, (.c (.ref (.ptr 27074 0)))),
  (184, (.agg [(.ref (.slc 26804 0 1 1)), (.int .i64 (.ofNat 0))])),
  (185, (.agg [(.ref (.slc 26808 0 1 1)), (.int .i64 (.ofNat 0))])),
  (186, (.agg [(.ref (.slc 26847 0 2 2)), (.int .i64 (.ofNat 1))])),
  (187, (.agg [(.ref (.slc 13 0 1 1)), (.int .i64 (.ofNat 0))])),
  (188, (.c (.ref (.slc 26849 0 3 3)))),
  (189, (.agg [(.ref (.slc 26960 0 5 5)), (.int .i64 (.ofNat 4))])),
  (190, (.agg [(.str [97]), (.ref (.slc 26960 0 5 5)), (.int .i64 (.ofNat 4))])),
  (191, (.agg [(.ref (.slc 13 0 1 1)), (.int .i64 (.ofNat 0))])),
  (192, (.agg [(.ref (.slc 27000 0 2 2)), (.int .i64 (.ofNat 1))])),
  (193, (.agg [(.str [98]), (.ref (.slc 27000 0 2 2)), (.int .i64 (.ofNat 1))])),
  (194, (.agg [(.ref (.slc 13 0 1 1)), (.int .i64 (.ofNat 0))])),
  (195, (.agg [(.ref (.slc 27005 0 1 1)), (.int .i64 (.ofNat 0))])),
  (196, (.c (.ref (.slc 27006 0 2 2)))),
  (197, (.agg [(.ref (.slc 27071 0 3 3)), (.int .i64 (.ofNat 2))])),
  (198, (.agg [(.str [99]), (.ref (.slc 27071 0 3 3)), (.int .i64 (.ofNat 2))])),
  (199, (.c (.ref (.slc 27073 0 3 3)))),
  (200, (.agg [(.ref (.slc 27073 0 3 3))]))], CE.dropL [] s116.L ++ [(26804, (.row 49 9 9 .false 0 0 (CE.lt 0 [(.agg [(.int .u8 (.ofNat 3)), (.int .u64 (.ofNat 0)), (.int .u64 (.ofNat 0)), (.int .u64 (.ofNat 0)), (.int .u64 (.ofNat 0)), (.str [99]), (.int .i64 (.ofNat 0)), (.int .i64 (.ofNat 0)), (.ref .nils)])]))),
  (26808, (.row 49 9 9 .false 0 0 (CE.lt 0 [(.agg [(.int .u8 (.ofNat 3)), (.int .u64 (.ofNat 0)), (.int .u64 (.ofNat 0)), (.int .u64 (.ofNat 0)), (.int .u64 (.ofNat 0)), (.str [98]), (.int .i64 (.ofNat 0)), (.int .i64 (.ofNat 0)), (.ref .nils)])]))),
  (26845, (.row 3 1 1 .true 1 0 (CE.lt 0 [(.c (.int .i64 (.ofNat 0)))]))),
  (26847, (.row 49 18 9 .true 1 1 (CE.lt 1 [(.agg [(.int .u8 (.ofNat 3)), (.int .u64 (.ofNat 0)), (.int .u64 (.ofNat 0)), (.int .u64 (.ofNat 0)), (.int .u64 (.ofNat 0)), (.str [98]), (.int .i64 (.ofNat 0)), (.int .i64 (.ofNat 0)), (.ref .nils)]), (.agg [(.int .u8 (.ofNat 9)), (.int .u64 (.ofNat 0)), (.int .u64 (.ofNat 0)), (.int .u64 (.ofNat 0)), (.int .u64 (.ofNat 0)), (.str [110]), (.int .i64 (.ofNat 0)), (.int .i64 (.ofNat 0)), (.ref (.slc 26845 0 1 1))])]))),
  (26849, (.row 34 6 2 .false 0 1 (CE.lt 1 [(.agg [(.ref (.slc 26804 0 1 1)), (.int .i64 (.ofNat 0))]), (.agg [(.ref (.slc 26847 0 2 2)), (.int .i64 (.ofNat 1))]), (.agg [(.ref (.slc 13 0 1 1)), (.int .i64 (.ofNat 0))])]))),
  (26926, (.row 3 1 1 .true 1 0 (CE.lt 0 [(.c (.int .i64 (.ofNat 1)))]))),
  (26958, (.row 3 3 1 .true 1 1 (CE.lt 1 [(.c (.int .i64 (.ofNat 0))), (.c (.int .i64 (.ofNat 2))), (.c (.int .i64 (.ofNat 3)))]))),
  (26960, (.row 49 45 9 .true 1 1 (CE.lt 1 [(.agg [(.int .u8 (.ofNat 3)), (.int .u64 (.ofNat 0)), (.int .u64 (.ofNat 0)), (.int .u64 (.ofNat 0)), (.int .u64 (.ofNat 0)), (.str [99]), (.int .i64 (.ofNat 0)), (.int .i64 (.ofNat 0)), (.ref .nils)]), (.agg [(.int .u8 (.ofNat 3)), (.int .u64 (.ofNat 0)), (.int .u64 (.ofNat 0)), (.int .u64 (.ofNat 0)), (.int .u64 (.ofNat 0)), (.str [98]), (.int .i64 (.ofNat 0)), (.int .i64 (.ofNat 0)), (.ref .nils)]), (.agg [(.int .u8 (.ofNat 9)), (.int .u64 (.ofNat 0)), (.int .u64 (.ofNat 0)), (.int .u64 (.ofNat 0)), (.int .u64 (.ofNat 0)), (.str [110]), (.int .i64 (.ofNat 0)), (.int .i64 (.ofNat 0)), (.ref (.slc 26926 0 1 1))]), (.agg [(.int .u8 (.ofNat 2)), (.int .u64 (.ofNat 0)), (.int .u64 (.ofNat 0)), (.int .u64 (.ofNat 0)), (.int .u64 (.ofNat 0)), (.str [120]), (.int .i64 (.ofNat 0)), (.int .i64 (.ofNat 0)), (.ref .nils)]), (.agg [(.int .u8 (.ofNat 5)), (.int .u64 (.ofNat 0)), (.int .u64 (.ofNat 0)), (.int .u64 (.ofNat 0)), (.int .u64 (.ofNat 0)), (.str []), (.int .i64 (.ofNat 0)), (.int .i64 (.ofNat 0)), (.ref (.slc 26958 0 3 3))])]))),
  (26998, (.row 3 1 1 .true 1 0 (CE.lt 0 [(.c (.int .i64 (.ofNat 0)))]))),
  (27000, (.row 49 18 9 .true 1 1 (CE.lt 1 [(.agg [(.int .u8 (.ofNat 2)), (.int .u64 (.ofNat 0)), (.int .u64 (.ofNat 0)), (.int .u64 (.ofNat 0)), (.int .u64 (.ofNat 0)), (.str [120]), (.int .i64 (.ofNat 0)), (.int .i64 (.ofNat 0)), (.ref .nils)]), (.agg [(.int .u8 (.ofNat 6)), (.int .u64 (.ofNat 0)), (.int .u64 (.ofNat 0)), (.int .u64 (.ofNat 0)), (.int .u64 (.ofNat 0)), (.str []), (.int .i64 (.ofNat 0)), (.int .i64 (.negSucc 0)), (.ref (.slc 26998 0 1 1))])]))),
  (27005, (.row 49 9 9 .false 0 0 (CE.lt 0 [(.agg [(.int .u8 (.ofNat 3)), (.int .u64 (.ofNat 0)), (.int .u64 (.ofNat 0)), (.int .u64 (.ofNat 0)), (.int .u64 (.ofNat 0)), (.str [99]), (.int .i64 (.ofNat 0)), (.int .i64 (.ofNat 0)), (.ref .nils)])]))),
  (27006, (.row 34 4 2 .false 0 1 (CE.lt 1 [(.agg [(.ref (.slc 13 0 1 1)), (.int .i64 (.ofNat 0))]), (.agg [(.ref (.slc 27005 0 1 1)), (.int .i64 (.ofNat 0))])]))),
  (27069, (.row 3 2 1 .true 1 1 (CE.lt 1 [(.c (.int .i64 (.ofNat 0))), (.c (.int .i64 (.ofNat 1)))]))),
  (27071, (.row 49 27 9 .true 1 1 (CE.lt 1 [(.agg [(.int .u8 (.ofNat 2)), (.int .u64 (.ofNat 0)), (.int .u64 (.ofNat 0)), (.int .u64 (.ofNat 0)), (.int .u64 (.ofNat 0)), (.str [120]), (.int .i64 (.ofNat 0)), (.int .i64 (.ofNat 0)), (.ref .nils)]), (.agg [(.int .u8 (.ofNat 3)), (.int .u64 (.ofNat 0)), (.int .u64 (.ofNat 0)), (.int .u64 (.ofNat 0)), (.int .u64 (.ofNat 0)), (.str [99]), (.int .i64 (.ofNat 0)), (.int .i64 (.ofNat 0)), (.ref .nils)]), (.agg [(.int .u8 (.ofNat 4)), (.int .u64 (.ofNat 0)), (.int .u64 (.ofNat 0)), (.int .u64 (.ofNat 0)), (.int .u64 (.ofNat 0)), (.str []), (.int .i64 (.ofNat 0)), (.int .i64 (.ofNat 0)), (.ref (.slc 27069 0 2 2))])]))),
  (27073, (.row 56 9 3 .false 0 1 (CE.lt 1 [(.agg [(.str [97]), (.ref (.slc 26960 0 5 5)), (.int .i64 (.ofNat 4))]), (.agg [(.str [98]), (.ref (.slc 27000 0 2 2)), (.int .i64 (.ofNat 1))]), (.agg [(.str [99]), (.ref (.slc 27071 0 3 3)), (.int .i64 (.ofNat 2))])]))),
  (27074, (.row 59 1 1 .false 0 0 (CE.lt 0 [(.c (.ref (.slc 27073 0 3 3)))])))], 27075, []⟩

def s118 : CE.Snap := ⟨CE.setE s117.es [(5, (.c (.ref (.slc 31158 0 2 2)))),
  (201, (.agg [(.ref (.slc 27073 0 3 3))])),
  (202, (.c (.ref (.slc 31158 0 2 2))))], CE.dropL [] s117.L ++ [(31158, (.row 71 10 5 .true 1 1 (CE.lt 1 [(.agg [(.int .u8 (.ofNat 2)), (.int .u8 (.ofNat 1)), (.int .i64 (.ofNat 0)), (.ref .nils), (.int .i64 (.ofNat 1))]), (.agg [(.int .u8 (.ofNat 2)), (.int .u8 (.ofNat 2)), (.int .i64 (.ofNat 0)), (.ref .nils), (.int .i64 (.ofNat 0))])])))], 31422, []⟩

def s119 : CE.Snap := ⟨CE.setE s118.es [(203, (.c (.ref (.slc 31158 0 2 2)))),
  (204, (.c (.int .i64 (.ofNat 2)))),
  (205, (.c (.bool .false))),
  (206, (.c (.bool .false))),
  (207, (.c (.ref (.slc 31158 0 2 2)))),
  (208, (.c (.ref (.ptr 31158 0)))),
  (209, (.c (.ref (.ptr 31158 1)))),
  (210, (.c (.int .u8 (.ofNat 1)))),
  (211, (.c (.bool .false))),
  (212, (.c (.bool .false))),
  (213, (.c (.bool .false))),
  (214, (.c (.ref (.slc 31158 0 2 2)))),
  (215, (.c (.ref (.ptr 31158 0)))),
  (216, (.c (.ref (.ptr 31158 4)))),
  (217, (.c (.int .i64 (.ofNat 1)))),
  (218, (.c (.bool .false))),
  (219, (.c (.bool .false))),
  (220, (.c (.bool .false))),
  (221, (.c (.ref (.slc 31158 0 2 2)))),
  (222, (.c (.ref (.ptr 31158 5)))),
  (223, (.c (.ref (.ptr 31158 6)))),
  (224, (.c (.int .u8 (.ofNat 2)))),
  (225, (.c (.bool .false))),
  (226, (.c (.bool .false))),
  (227, (.c (.bool .false))),
  (228, (.c (.ref (.slc 31158 0 2 2)))),
  (229, (.c (.ref (.ptr 31158 5)))),
  (230, (.c (.ref (.ptr 31158 9)))),
  (231, (.c (.int .i64 (.ofNat 0)))),
  (232, (.c (.bool .false))),
  (233, (.c (.bool .false))),
  (234, (.c (.bool .false))),
  (235, (.agg [(.ref (.slc 27073 0 3 3))])),
  (236, (.c (.int .i64 (.ofNat 2)))),
  (237, (.c (.bool .false))),
  (238, (.c (.bool .false)))], CE.dropL [] s118.L ++ [], 32817, []⟩

def s120 : CE.Snap := ⟨CE.setE s119.es [(11, (.c (.ref (.ptr 35738 0)))),
  (12, (.c (.int .i64 (.ofNat 0)))),
  (239, (.tup [(.agg [(.ref (.slc 35063 0 3 3))]), (.c (.int .i64 (.ofNat 0)))])),
  (240, (.agg [(.ref (.slc 27073 0 3 3))])),
  (241, (.c (.ref (.slc 31158 0 2 2)))),
  (242, (.c (.ref (.ptr 31158 0)))),
  (243, (.agg [(.int .u8 (.ofNat 2)), (.int .u8 (.ofNat 1)), (.int .i64 (.ofNat 0)), (.ref .nils), (.int .i64 (.ofNat 1))])),
  (244, (.tup [(.agg [(.ref (.slc 35063 0 3 3))]), (.c (.int .i64 (.ofNat 0)))])),
  (245, (.agg [(.ref (.slc 35063 0 3 3))])),
  (246, (.c (.int .i64 (.ofNat 0))))], CE.dropL [] s119.L ++ [(35043, (.row 3 1 1 .true 1 0 (CE.lt 0 [(.c (.int .i64 (.ofNat 0)))]))),
  (35045, (.row 49 18 9 .true 1 1 (CE.lt 1 [(.agg [(.int .u8 (.ofNat 2)), (.int .u64 (.ofNat 0)), (.int .u64 (.ofNat 0)), (.int .u64 (.ofNat 0)), (.int .u64 (.ofNat 0)), (.str [120]), (.int .i64 (.ofNat 0)), (.int .i64 (.ofNat 0)), (.ref .nils)]), (.agg [(.int .u8 (.ofNat 6)), (.int .u64 (.ofNat 0)), (.int .u64 (.ofNat 0)), (.int .u64 (.ofNat 0)), (.int .u64 (.ofNat 0)), (.str []), (.int .i64 (.ofNat 0)), (.int .i64 (.negSucc 0)), (.ref (.slc 35043 0 1 1))])]))),
  (35059, (.row 3 2 1 .true 1 1 (CE.lt 1 [(.c (.int .i64 (.ofNat 0))), (.c (.int .i64 (.ofNat 1)))]))),
  (35061, (.row 49 27 9 .true 1 1 (CE.lt 1 [(.agg [(.int .u8 (.ofNat 2)), (.int .u64 (.ofNat 0)), (.int .u64 (.ofNat 0)), (.int .u64 (.ofNat 0)), (.int .u64 (.ofNat 0)), (.str [120]), (.int .i64 (.ofNat 0)), (.int .i64 (.ofNat 0)), (.ref .nils)]), (.agg [(.int .u8 (.ofNat 3)), (.int .u64 (.ofNat 0)), (.int .u64 (.ofNat 0)), (.int .u64 (.ofNat 0)), (.int .u64 (.ofNat 0)), (.str [99]), (.int .i64 (.ofNat 0)), (.int .i64 (.ofNat 0)), (.ref .nils)]), (.agg [(.int .u8 (.ofNat 4)), (.int .u64 (.ofNat 0)), (.int .u64 (.ofNat 0)), (.int .u64 (.ofNat 0)), (.int .u64 (.ofNat 0)), (.str []), (.int .i64 (.ofNat 0)), (.int .i64 (.ofNat 0)), (.ref (.slc 35059 0 2 2))])]))),
  (35063, (.row 56 9 3 .true 1 1 (CE.lt 1 [(.agg [(.str [97]), (.ref (.slc 35081 0 4 4)), (.int .i64 (.ofNat 3))]), (.agg [(.str [98]), (.ref (.slc 35045 0 2 2)), (.int .i64 (.ofNat 1))]), (.agg [(.str [99]), (.ref (.slc 35061 0 3 3)), (.int .i64 (.ofNat 2))])]))),
  (35075, (.row 3 1 1 .true 1 0 (CE.lt 0 [(.c (.int .i64 (.ofNat 1)))]))),
  (35079, (.row 3 2 1 .true 1 1 (CE.lt 1 [(.c (.int .i64 (.ofNat 0))), (.c (.int .i64 (.ofNat 2)))]))),
  (35081, (.row 49 36 9 .true 1 1 (CE.lt 1 [(.agg [(.int .u8 (.ofNat 3)), (.int .u64 (.ofNat 0)), (.int .u64 (.ofNat 0)), (.int .u64 (.ofNat 0)), (.int .u64 (.ofNat 0)), (.str [99]), (.int .i64 (.ofNat 0)), (.int .i64 (.ofNat 0)), (.ref .nils)]), (.agg [(.int .u8 (.ofNat 3)), (.int .u64 (.ofNat 0)), (.int .u64 (.ofNat 0)), (.int .u64 (.ofNat 0)), (.int .u64 (.ofNat 0)), (.str [98]), (.int .i64 (.ofNat 0)), (.int .i64 (.ofNat 0)), (.ref .nils)]), (.agg [(.int .u8 (.ofNat 9)), (.int .u64 (.ofNat 0)), (.int .u64 (.ofNat 0)), (.int .u64 (.ofNat 0)), (.int .u64 (.ofNat 0)), (.str [110]), (.int .i64 (.ofNat 0)), (.int .i64 (.ofNat 0)), (.ref (.slc 35075 0 1 1))]), (.agg [(.int .u8 (.ofNat 5)), (.int .u64 (.ofNat 0)), (.int .u64 (.ofNat 0)), (.int .u64 (.ofNat 0)), (.int .u64 (.ofNat 0)), (.str []), (.int .i64 (.ofNat 0)), (.int .i64 (.ofNat 0)), (.ref (.slc 35079 0 2 2))])]))),
  (35738, (.row 59 1 1 .false 0 0 (CE.lt 0 [(.c (.ref (.slc 35063 0 3 3)))])))], 35739, []⟩

def s121 : CE.Snap := ⟨CE.setE s120.es [(13, (.c (.ref (.ptr 38702 0)))),
  (14, (.c (.bool .true))),
  (247, (.tup [(.agg [(.int .u8 (.ofNat 2)), (.int .u8 (.ofNat 1)), (.int .i64 (.ofNat 0)), (.ref .nils), (.int .i64 (.ofNat 1))]), (.c (.bool .true))])),
  (248, (.agg [(.ref (.slc 27073 0 3 3))])),
  (249, (.tup [(.agg [(.int .u8 (.ofNat 2)), (.int .u8 (.ofNat 1)), (.int .i64 (.ofNat 0)), (.ref .nils), (.int .i64 (.ofNat 1))]), (.c (.bool .true))])),
  (250, (.agg [(.int .u8 (.ofNat 2)), (.int .u8 (.ofNat 1)), (.int .i64 (.ofNat 0)), (.ref .nils), (.int .i64 (.ofNat 1))])),
  (251, (.c (.bool .true)))], CE.dropL [] s120.L ++ [(38702, (.row 71 5 5 .false 0 0 (CE.lt 0 [(.agg [(.int .u8 (.ofNat 2)), (.int .u8 (.ofNat 1)), (.int .i64 (.ofNat 0)), (.ref .nils), (.int .i64 (.ofNat 1))])])))], 38703, []⟩

def s122 : CE.Snap := ⟨CE.setE s121.es [(252, (.c (.int .i64 (.ofNat 0)))),
  (253, (.c (.bool .false))),
  (254, (.c (.bool .false))),
  (255, (.c (.ref (.ptr 35738 0)))),
  (256, (.c (.ref (.slc 35063 0 3 3)))),
  (257, (.c (.ref (.ptr 35063 0)))),
  (258, (.c (.ref (.ptr 35063 1)))),
  (259, (.agg [(.ref (.slc 35081 0 4 4)), (.int .i64 (.ofNat 3))])),
  (260, (.agg [(.ref (.slc 38706 0 1 1)), (.int .i64 (.ofNat 0))])),
  (261, (.agg [(.ref (.slc 38710 0 1 1)), (.int .i64 (.ofNat 0))])),
  (262, (.agg [(.ref (.slc 38749 0 2 2)), (.int .i64 (.ofNat 1))])),
  (263, (.c (.ref (.slc 38751 0 2 2)))),
  (264, (.agg [(.ref (.slc 38834 0 4 4)), (.int .i64 (.ofNat 3))])),
  (265, (.c (.bool .true))),
  (266, (.c (.bool .false))),
  (267, (.c (.bool .false))),
  (268, (.c (.bool .false))),
  (269, (.c (.bool .true))),
  (270, (.c (.bool .false))),
  (271, (.c (.bool .false))),
  (272, (.c (.bool .false))),
  (273, (.c (.ref (.ptr 38702 1)))),
  (274, (.c (.int .u8 (.ofNat 1)))),
  (275, (.c (.bool .false))),
  (276, (.c (.bool .false)))], CE.dropL [] s121.L ++ [(38706, (.row 49 9 9 .false 0 0 (CE.lt 0 [(.agg [(.int .u8 (.ofNat 3)), (.int .u64 (.ofNat 0)), (.int .u64 (.ofNat 0)), (.int .u64 (.ofNat 0)), (.int .u64 (.ofNat 0)), (.str [99]), (.int .i64 (.ofNat 0)), (.int .i64 (.ofNat 0)), (.ref .nils)])]))),
  (38710, (.row 49 9 9 .false 0 0 (CE.lt 0 [(.agg [(.int .u8 (.ofNat 3)), (.int .u64 (.ofNat 0)), (.int .u64 (.ofNat 0)), (.int .u64 (.ofNat 0)), (.int .u64 (.ofNat 0)), (.str [98]), (.int .i64 (.ofNat 0)), (.int .i64 (.ofNat 0)), (.ref .nils)])]))),
  (38747, (.row 3 1 1 .true 1 0 (CE.lt 0 [(.c (.int .i64 (.ofNat 0)))]))),
  (38749, (.row 49 18 9 .true 1 1 (CE.lt 1 [(.agg [(.int .u8 (.ofNat 3)), (.int .u64 (.ofNat 0)), (.int .u64 (.ofNat 0)), (.int .u64 (.ofNat 0)), (.int .u64 (.ofNat 0)), (.str [98]), (.int .i64 (.ofNat 0)), (.int .i64 (.ofNat 0)), (.ref .nils)]), (.agg [(.int .u8 (.ofNat 9)), (.int .u64 (.ofNat 0)), (.int .u64 (.ofNat 0)), (.int .u64 (.ofNat 0)), (.int .u64 (.ofNat 0)), (.str [110]), (.int .i64 (.ofNat 0)), (.int .i64 (.ofNat 0)), (.ref (.slc 38747 0 1 1))])]))),
  (38751, (.row 34 4 2 .false 0 1 (CE.lt 1 [(.agg [(.ref (.slc 38706 0 1 1)), (.int .i64 (.ofNat 0))]), (.agg [(.ref (.slc 38749 0 2 2)), (.int .i64 (.ofNat 1))])]))),
  (38828, (.row 3 1 1 .true 1 0 (CE.lt 0 [(.c (.int .i64 (.ofNat 1)))]))),
  (38832, (.row 3 2 1 .true 1 1 (CE.lt 1 [(.c (.int .i64 (.ofNat 0))), (.c (.int .i64 (.ofNat 2)))]))),
  (38834, (.row 49 36 9 .true 1 1 (CE.lt 1 [(.agg [(.int .u8 (.ofNat 3)), (.int .u64 (.ofNat 0)), (.int .u64 (.ofNat 0)), (.int .u64 (.ofNat 0)), (.int .u64 (.ofNat 0)), (.str [99]), (.int .i64 (.ofNat 0)), (.int .i64 (.ofNat 0)), (.ref .nils)]), (.agg [(.int .u8 (.ofNat 3)), (.int .u64 (.ofNat 0)), (.int .u64 (.ofNat 0)), (.int .u64 (.ofNat 0)), (.int .u64 (.ofNat 0)), (.str [98]), (.int .i64 (.ofNat 0)), (.int .i64 (.ofNat 0)), (.ref .nils)]), (.agg [(.int .u8 (.ofNat 9)), (.int .u64 (.ofNat 0)), (.int .u64 (.ofNat 0)), (.int .u64 (.ofNat 0)), (.int .u64 (.ofNat 0)), (.str [110]), (.int .i64 (.ofNat 0)), (.int .i64 (.ofNat 0)), (.ref (.slc 38828 0 1 1))]), (.agg [(.int .u8 (.ofNat 5)), (.int .u64 (.ofNat 0)), (.int .u64 (.ofNat 0)), (.int .u64 (.ofNat 0)), (.int .u64 (.ofNat 0)), (.str []), (.int .i64 (.ofNat 0)), (.int .i64 (.ofNat 0)), (.ref (.slc 38832 0 2 2))])])))], 38894, []⟩

def s123 : CE.Snap := ⟨CE.setE s122.es [(15, (.c (.ref (.ptr 38968 0)))),
  (277, (.agg [(.ref (.slc 38897 0 1 1)), (.int .i64 (.ofNat 0))])),
  (278, (.agg [(.ref (.slc 13 0 1 1)), (.int .i64 (.ofNat 0))])),
  (279, (.c (.ref (.slc 38898 0 2 2)))),
  (280, (.agg [(.ref (.slc 38963 0 3 3)), (.int .i64 (.ofNat 2))])),
  (281, (.agg [(.ref (.slc 38967 0 1 1))]))], CE.dropL [] s122.L ++ [(38897, (.row 49 9 9 .false 0 0 (CE.lt 0 [(.agg [(.int .u8 (.ofNat 3)), (.int .u64 (.ofNat 0)), (.int .u64 (.ofNat 0)), (.int .u64 (.ofNat 0)), (.int .u64 (.ofNat 0)), (.str [97]), (.int .i64 (.ofNat 0)), (.int .i64 (.ofNat 0)), (.ref .nils)])]))),
  (38898, (.row 34 4 2 .false 0 1 (CE.lt 1 [(.agg [(.ref (.slc 38897 0 1 1)), (.int .i64 (.ofNat 0))]), (.agg [(.ref (.slc 13 0 1 1)), (.int .i64 (.ofNat 0))])]))),
  (38961, (.row 3 2 1 .true 1 1 (CE.lt 1 [(.c (.int .i64 (.ofNat 0))), (.c (.int .i64 (.ofNat 1)))]))),
  (38963, (.row 49 27 9 .true 1 1 (CE.lt 1 [(.agg [(.int .u8 (.ofNat 3)), (.int .u64 (.ofNat 0)), (.int .u64 (.ofNat 0)), (.int .u64 (.ofNat 0)), (.int .u64 (.ofNat 0)), (.str [97]), (.int .i64 (.ofNat 0)), (.int .i64 (.ofNat 0)), (.ref .nils)]), (.agg [(.int .u8 (.ofNat 2)), (.int .u64 (.ofNat 0)), (.int .u64 (.ofNat 0)), (.int .u64 (.ofNat 0)), (.int .u64 (.ofNat 0)), (.str [120]), (.int .i64 (.ofNat 0)), (.int .i64 (.ofNat 0)), (.ref .nils)]), (.agg [(.int .u8 (.ofNat 5)), (.int .u64 (.ofNat 0)), (.int .u64 (.ofNat 0)), (.int .u64 (.ofNat 0)), (.int .u64 (.ofNat 0)), (.str []), (.int .i64 (.ofNat 0)), (.int .i64 (.ofNat 0)), (.ref (.slc 38961 0 2 2))])]))),
  (38967, (.row 56 3 3 .false 0 0 (CE.lt 0 [(.agg [(.str [97]), (.ref (.slc 38963 0 3 3)), (.int .i64 (.ofNat 2))])]))),
  (38968, (.row 59 1 1 .false 0 0 (CE.lt 0 [(.c (.ref (.slc 38967 0 1 1)))])))], 38969, []⟩

def s124 : CE.Snap := ⟨CE.setE s123.es [(16, (.c (.ref (.ptr 39165 0)))),
  (17, (.c (.int .i64 (.ofNat 42)))),
  (282, (.tup [(.agg [(.ref .nils)]), (.c (.int .i64 (.ofNat 42)))])),
  (283, (.agg [(.ref (.slc 38967 0 1 1))])),
  (284, (.agg [(.int .u8 (.ofNat 2)), (.int .u8 (.ofNat 1)), (.int .i64 (.ofNat 0)), (.ref .nils), (.int .i64 (.ofNat 0))])),
  (285, (.tup [(.agg [(.ref .nils)]), (.c (.int .i64 (.ofNat 42)))])),
  (286, (.agg [(.ref .nils)])),
  (287, (.c (.int .i64 (.ofNat 42))))], CE.dropL [] s123.L ++ [(39165, (.row 59 1 1 .false 0 0 (CE.lt 0 [(.c (.ref .nils))])))], 39166, []⟩

def s125 : CE.Snap := ⟨CE.setE s124.es [(18, (.c (.ref (.ptr 39882 0)))),
  (19, (.c (.int .i64 (.ofNat 47)))),
  (288, (.tup [(.agg [(.ref .nils)]), (.c (.int .i64 (.ofNat 47)))])),
  (289, (.agg [(.ref (.slc 27073 0 3 3))])),
  (290, (.agg [(.int .u8 (.ofNat 3)), (.int .u8 (.ofNat 1)), (.int .i64 (.ofNat 0)), (.ref .nils), (.int .i64 (.ofNat 1))])),
  (291, (.tup [(.agg [(.ref .nils)]), (.c (.int .i64 (.ofNat 47)))])),
  (292, (.agg [(.ref .nils)])),
  (293, (.c (.int .i64 (.ofNat 47))))], CE.dropL [] s124.L ++ [(39882, (.row 59 1 1 .false 0 0 (CE.lt 0 [(.c (.ref .nils))])))], 39883, []⟩

def s126 : CE.Snap := ⟨CE.setE s125.es [(20, (.c (.ref (.ptr 41770 0)))),
  (21, (.c (.int .i64 (.ofNat 47)))),
  (294, (.tup [(.agg [(.ref .nils)]), (.c (.int .i64 (.ofNat 47)))])),
  (295, (.agg [(.ref (.slc 27073 0 3 3))])),
  (296, (.agg [(.int .u8 (.ofNat 2)), (.int .u8 (.ofNat 1)), (.int .i64 (.ofNat 3)), (.ref .nils), (.int .i64 (.ofNat 0))])),
  (297, (.tup [(.agg [(.ref .nils)]), (.c (.int .i64 (.ofNat 47)))])),
  (298, (.agg [(.ref .nils)])),
  (299, (.c (.int .i64 (.ofNat 47))))], CE.dropL [] s125.L ++ [(41770, (.row 59 1 1 .false 0 0 (CE.lt 0 [(.c (.ref .nils))])))], 41771, []⟩

def s127 : CE.Snap := ⟨CE.setE s126.es [(22, (.c (.ref (.ptr 43659 0)))),
  (23, (.c (.int .i64 (.ofNat 47)))),
  (300, (.tup [(.agg [(.ref .nils)]), (.c (.int .i64 (.ofNat 47)))])),
  (301, (.agg [(.ref (.slc 27073 0 3 3))])),
  (302, (.c (.ref (.slc 41771 0 1 1)))),
  (303, (.agg [(.int .u8 (.ofNat 2)), (.int .u8 (.ofNat 1)), (.int .i64 (.ofNat 0)), (.ref (.slc 41771 0 1 1)), (.int .i64 (.ofNat 1))])),
  (304, (.tup [(.agg [(.ref .nils)]), (.c (.int .i64 (.ofNat 47)))])),
  (305, (.agg [(.ref .nils)])),
  (306, (.c (.int .i64 (.ofNat 47))))], CE.dropL [] s126.L ++ [(41771, (.row 3 1 1 .false 0 0 (CE.lt 0 [(.c (.int .i64 (.ofNat 9)))]))),
  (43659, (.row 59 1 1 .false 0 0 (CE.lt 0 [(.c (.ref .nils))])))], 43660, []⟩

def s128 : CE.Snap := ⟨CE.setE s127.es [(24, (.c (.ref (.ptr 43859 0)))),
  (25, (.c (.bool .false))),
  (307, (.tup [(.agg [(.int .u8 (.ofNat 0)), (.int .u8 (.ofNat 0)), (.int .i64 (.ofNat 0)), (.ref .nils), (.int .i64 (.ofNat 0))]), (.c (.bool .false))])),
  (308, (.agg [(.ref (.slc 38967 0 1 1))])),
  (309, (.tup [(.agg [(.int .u8 (.ofNat 0)), (.int .u8 (.ofNat 0)), (.int .i64 (.ofNat 0)), (.ref .nils), (.int .i64 (.ofNat 0))]), (.c (.bool .false))])),
  (310, (.agg [(.int .u8 (.ofNat 0)), (.int .u8 (.ofNat 0)), (.int .i64 (.ofNat 0)), (.ref .nils), (.int .i64 (.ofNat 0))])),
  (311, (.c (.bool .false)))], CE.dropL [] s127.L ++ [(43859, (.row 71 5 5 .false 0 0 (CE.lt 0 [(.agg [(.int .u8 (.ofNat 0)), (.int .u8 (.ofNat 0)), (.int .i64 (.ofNat 0)), (.ref .nils), (.int .i64 (.ofNat 0))])])))], 43860, []⟩

def s129 : CE.Snap := ⟨CE.setE s128.es [(0, (.c (.bool .true))),
  (312, (.c (.int .i64 (.ofNat 42)))),
  (313, (.c (.bool .true))),
  (314, (.c (.bool .true))),
  (315, (.c (.int .i64 (.ofNat 47)))),
  (316, (.c (.bool .true))),
  (317, (.c (.bool .true))),
  (318, (.c (.bool .true))),
  (319, (.c (.int .i64 (.ofNat 47)))),
  (320, (.c (.bool .true))),
  (321, (.c (.bool .true))),
  (322, (.c (.bool .true))),
  (323, (.c (.int .i64 (.ofNat 47)))),
  (324, (.c (.bool .true))),
  (325, (.c (.bool .true))),
  (326, (.c (.bool .true))),
  (327, (.c (.bool .false))),
  (328, (.c (.bool .true))),
  (329, (.c (.bool .true))),
  (330, (.c (.bool .true))),
  (331, (.agg [(.ref (.slc 38967 0 1 1))])),
  (332, (.c (.ref .nils))),
  (333, (.c (.int .i64 (.ofNat 0)))),
  (334, (.c (.bool .true))),
  (335, (.c (.bool .true))),
  (336, (.c (.bool .true))),
  (337, (.agg [(.ref (.slc 38967 0 1 1))])),
  (338, (.c (.int .i64 (.ofNat 0)))),
  (339, (.c (.bool .true))),
  (340, (.c (.bool .true))),
  (341, (.c (.bool .true))),
  (342, (.agg [(.ref .nils)])),
  (343, (.c (.ref .nils))),
  (344, (.c (.int .i64 (.ofNat 0)))),
  (345, (.c (.bool .true))),
  (346, (.c (.bool .true)))], CE.dropL [] s128.L ++ [], 44264, []⟩


end

end Go.Proofs.YtekhmjppnkgmjaaGreatDoor.deadNames
