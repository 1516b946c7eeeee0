/- PruneNames: what the kernel works out, in segments. -/
import Derived.Test.YtfhjbbklfmmpbaaGreatDoorPruneNamesCut
namespace Go.Proofs.YtfhjbbklfmmpbaaGreatDoor.pruneNames
open Go

noncomputable section
def s0 : CE.Snap := ⟨List.replicate 149 CE.undefA, gl, 10, []⟩

def s1 : CE.Snap := ⟨[(.c (.bool .false)), (.tup []), (.tup []), (.tup []), (.tup []), (.tup []), (.tup []), (.tup []), (.tup []), (.tup []), (.tup []), (.tup []), (.tup []), (.tup []), (.tup []), (.tup []), (.tup []), (.tup []), (.tup []), (.tup []), (.tup []), (.tup []), (.tup []), (.tup []), (.tup []), (.tup []), (.tup []), (.tup []), (.tup []), (.tup []), (.tup []), (.tup []), (.tup []), (.tup []), (.tup []), (.tup []), (.tup []), (.tup []), (.tup []), (.tup []), (.tup []), (.tup []), (.tup []), (.tup []), (.tup []), (.tup []), (.tup []), (.tup []), (.tup []), (.tup []), (.tup []), (.tup []), (.tup []), (.tup []), (.tup []), (.tup []), (.tup []), (.tup []), (.tup []), (.tup []), (.tup []), (.tup []), (.tup []), (.tup []), (.tup []), (.tup []), (.tup []), (.tup []), (.tup []), (.tup []), (.tup []), (.tup []), (.tup []), (.tup []), (.tup []), (.tup []), (.tup []), (.tup []), (.tup []), (.tup []), (.tup []), (.tup []), (.tup []), (.tup []), (.tup []), (.tup []), (.tup []), (.tup []), (.tup []), (.tup []), (.tup []), (.tup []), (.tup []), (.tup []), (.tup []), (.tup []), (.tup []), (.tup []), (.tup []), (.tup []), (.tup []), (.tup []), (.tup []), (.tup []), (.tup []), (.tup []), (.tup []), (.tup []), (.tup []), (.tup []), (.tup []), (.tup []), (.tup []), (.tup []), (.tup []), (.tup []), (.tup []), (.tup []), (.tup []), (.tup []), (.tup []), (.tup []), (.tup []), (.tup []), (.tup []), (.tup []), (.tup []), (.tup []), (.tup []), (.tup []), (.tup []), (.tup []), (.tup []), (.tup []), (.tup []), (.tup []), (.tup []), (.tup []), (.tup []), (.tup []), (.tup []), (.tup []), (.tup []), (.tup []), (.tup []), (.tup []), (.tup []), (.tup []), (.tup [])], gl ++ [], 10, []⟩

def s2 : CE.Snap := ⟨CE.setE s1.es [(16, (.c (.bool .true))),
  (17, (.c (.bool .false)))], CE.dropL [] s1.L ++ [], 7606, []⟩

def s3 : CE.Snap := ⟨CE.setE s2.es [], CE.dropL [] s2.L ++ [], 7606, []⟩

def s4 : CE.Snap := ⟨CE.setE s3.es [(18, (.c (.ref (.slc 7606 0 1 1)))),
  (19, (.c (.bool .true))),
  (20, (.c (.bool .false))),
  (21, (.c (.bool .false))),
  (22, (.c (.bool .true))),
  (23, (.c (.bool .false))),
  (24, (.c (.bool .false))),
  (25, (.c (.bool .false))),
  (26, (.c (.bool .true))),
  (27, (.c (.bool .false))),
  (28, (.c (.bool .false))),
  (29, (.c (.bool .false))),
  (30, (.c (.bool .true))),
  (31, (.c (.bool .false))),
  (32, (.c (.bool .false)))], CE.dropL [] s3.L ++ [(7606, (.row 3 1 1 .false 0 0 (CE.lt 0 [(.c (.int .i64 (.ofNat 1100)))])))], 18077, []⟩

def s5 : CE.Snap := ⟨CE.setE s4.es [], CE.dropL [] s4.L ++ [], 18077, []⟩

def s6 : CE.Snap := ⟨CE.setE s5.es [(1, (.c (.ref (.ptr 18695 0)))),
  (33, (.agg [(.ref (.slc 18681 0 6 6))]))], CE.dropL [] s5.L ++ [(18231, (.row 69 9 9 .false 0 0 (CE.lt 0 [(.agg [(.int .u8 (.ofNat 3)), (.int .u64 (.ofNat 0)), (.int .u64 (.ofNat 0)), (.int .u64 (.ofNat 0)), (.int .u64 (.ofNat 0)), (.str [99]), (.int .i64 (.ofNat 0)), (.int .i64 (.ofNat 0)), (.ref .nils)])]))),
  (18268, (.row 69 9 9 .false 0 0 (CE.lt 0 [(.agg [(.int .u8 (.ofNat 3)), (.int .u64 (.ofNat 0)), (.int .u64 (.ofNat 0)), (.int .u64 (.ofNat 0)), (.int .u64 (.ofNat 0)), (.str [97]), (.int .i64 (.ofNat 0)), (.int .i64 (.ofNat 0)), (.ref .nils)])]))),
  (18402, (.row 69 27 9 .false 0 1 (CE.lt 1 [(.agg [(.int .u8 (.ofNat 2)), (.int .u64 (.ofNat 0)), (.int .u64 (.ofNat 0)), (.int .u64 (.ofNat 0)), (.int .u64 (.ofNat 0)), (.str [120]), (.int .i64 (.ofNat 0)), (.int .i64 (.ofNat 0)), (.ref .nils)]), (.agg [(.int .u8 (.ofNat 3)), (.int .u64 (.ofNat 0)), (.int .u64 (.ofNat 0)), (.int .u64 (.ofNat 0)), (.int .u64 (.ofNat 0)), (.str [100]), (.int .i64 (.ofNat 0)), (.int .i64 (.ofNat 0)), (.ref .nils)]), (.agg [(.int .u8 (.ofNat 4)), (.int .u64 (.ofNat 0)), (.int .u64 (.ofNat 0)), (.int .u64 (.ofNat 0)), (.int .u64 (.ofNat 0)), (.str []), (.int .i64 (.ofNat 0)), (.int .i64 (.ofNat 0)), (.ref (.slc 18407 0 2 2))])]))),
  (18407, (.row 3 2 1 .true 1 1 (CE.lt 1 [(.c (.int .i64 (.ofNat 0))), (.c (.int .i64 (.ofNat 1)))]))),
  (18546, (.row 69 27 9 .false 0 1 (CE.lt 1 [(.agg [(.int .u8 (.ofNat 3)), (.int .u64 (.ofNat 0)), (.int .u64 (.ofNat 0)), (.int .u64 (.ofNat 0)), (.int .u64 (.ofNat 0)), (.str [117]), (.int .i64 (.ofNat 0)), (.int .i64 (.ofNat 0)), (.ref .nils)]), (.agg [(.int .u8 (.ofNat 3)), (.int .u64 (.ofNat 0)), (.int .u64 (.ofNat 0)), (.int .u64 (.ofNat 0)), (.int .u64 (.ofNat 0)), (.str [119]), (.int .i64 (.ofNat 0)), (.int .i64 (.ofNat 0)), (.ref .nils)]), (.agg [(.int .u8 (.ofNat 4)), (.int .u64 (.ofNat 0)), (.int .u64 (.ofNat 0)), (.int .u64 (.ofNat 0)), (.int .u64 (.ofNat 0)), (.str []), (.int .i64 (.ofNat 0)), (.int .i64 (.ofNat 0)), (.ref (.slc 18551 0 2 2))])]))),
  (18551, (.row 3 2 1 .true 1 1 (CE.lt 1 [(.c (.int .i64 (.ofNat 0))), (.c (.int .i64 (.ofNat 1)))]))),
  (18589, (.row 69 9 9 .false 0 0 (CE.lt 0 [(.agg [(.int .u8 (.ofNat 2)), (.int .u64 (.ofNat 0)), (.int .u64 (.ofNat 0)), (.int .u64 (.ofNat 0)), (.int .u64 (.ofNat 0)), (.str [113]), (.int .i64 (.ofNat 0)), (.int .i64 (.ofNat 0)), (.ref .nils)])]))),
  (18658, (.row 69 9 9 .false 0 0 (CE.lt 0 [(.agg [(.int .u8 (.ofNat 0)), (.int .u64 (.ofNat 0)), (.int .u64 (.ofNat 0)), (.int .u64 (.ofNat 0)), (.int .u64 (.ofNat 0)), (.str []), (.int .i64 (.ofNat 0)), (.int .i64 (.ofNat 0)), (.ref .nils)])]))),
  (18681, (.row 98 18 3 .true 1 1 (CE.lt 1 [(.agg [(.str [97]), (.ref (.slc 18231 0 1 1)), (.int .i64 (.ofNat 0))]), (.agg [(.str [117]), (.ref (.slc 18268 0 1 1)), (.int .i64 (.ofNat 0))]), (.agg [(.str [99]), (.ref (.slc 18402 0 3 3)), (.int .i64 (.ofNat 2))]), (.agg [(.str [118]), (.ref (.slc 18546 0 3 3)), (.int .i64 (.ofNat 2))]), (.agg [(.str [119]), (.ref (.slc 18589 0 1 1)), (.int .i64 (.ofNat 0))]), (.agg [(.str [100]), (.ref (.slc 18658 0 1 1)), (.int .i64 (.ofNat 0))])]))),
  (18695, (.row 31 1 1 .false 0 0 (CE.lt 0 [(.c (.ref (.slc 18681 0 6 6)))])))], 18696, []⟩

def s7 : CE.Snap := ⟨CE.setE s6.es [(34, (.agg [(.int .u8 (.ofNat 0)), (.int .u8 (.ofNat 0)), (.int .i64 (.ofNat 0)), (.ref .nils), (.int .i64 (.ofNat 0))])),
  (35, (.agg [(.int .u8 (.ofNat 7)), (.int .u8 (.ofNat 1)), (.int .i64 (.ofNat 0)), (.ref .nils), (.int .i64 (.ofNat 0))])),
  (36, (.agg [(.int .u8 (.ofNat 7)), (.int .u8 (.ofNat 2)), (.int .i64 (.ofNat 1)), (.ref .nils), (.int .i64 (.ofNat 0))])),
  (37, (.agg [(.int .u8 (.ofNat 6)), (.int .u8 (.ofNat 1)), (.int .i64 (.ofNat 1)), (.ref .nils), (.int .i64 (.ofNat 0))])),
  (38, (.agg [(.int .u8 (.ofNat 7)), (.int .u8 (.ofNat 1)), (.int .i64 (.ofNat 3)), (.ref .nils), (.int .i64 (.ofNat 0))])),
  (39, (.agg [(.int .u8 (.ofNat 7)), (.int .u8 (.ofNat 1)), (.int .i64 (.ofNat 1)), (.ref .nils), (.int .i64 (.ofNat 1))])),
  (40, (.c (.ref (.slc 18696 0 1 1)))),
  (41, (.agg [(.int .u8 (.ofNat 7)), (.int .u8 (.ofNat 1)), (.int .i64 (.ofNat 1)), (.ref (.slc 18696 0 1 1)), (.int .i64 (.ofNat 0))])),
  (42, (.agg [(.int .u8 (.ofNat 7)), (.int .u8 (.ofNat 1)), (.int .i64 (.negSucc 0)), (.ref .nils), (.int .i64 (.ofNat 0))])),
  (43, (.agg [(.int .u8 (.ofNat 7)), (.int .u8 (.ofNat 0)), (.int .i64 (.ofNat 1)), (.ref .nils), (.int .i64 (.ofNat 0))])),
  (44, (.c (.ref (.slc 18697 0 9 9)))),
  (45, (.c (.int .i64 (.ofNat 9)))),
  (46, (.c (.int .i64 (.ofNat 0))))], CE.dropL [] s6.L ++ [(18696, (.row 3 1 1 .false 0 0 (CE.lt 0 [(.c (.int .i64 (.ofNat 0)))]))),
  (18697, (.row 34 45 5 .false 0 2 (CE.lt 2 [(.agg [(.int .u8 (.ofNat 0)), (.int .u8 (.ofNat 0)), (.int .i64 (.ofNat 0)), (.ref .nils), (.int .i64 (.ofNat 0))]), (.agg [(.int .u8 (.ofNat 7)), (.int .u8 (.ofNat 1)), (.int .i64 (.ofNat 0)), (.ref .nils), (.int .i64 (.ofNat 0))]), (.agg [(.int .u8 (.ofNat 7)), (.int .u8 (.ofNat 2)), (.int .i64 (.ofNat 1)), (.ref .nils), (.int .i64 (.ofNat 0))]), (.agg [(.int .u8 (.ofNat 6)), (.int .u8 (.ofNat 1)), (.int .i64 (.ofNat 1)), (.ref .nils), (.int .i64 (.ofNat 0))]), (.agg [(.int .u8 (.ofNat 7)), (.int .u8 (.ofNat 1)), (.int .i64 (.ofNat 3)), (.ref .nils), (.int .i64 (.ofNat 0))]), (.agg [(.int .u8 (.ofNat 7)), (.int .u8 (.ofNat 1)), (.int .i64 (.ofNat 1)), (.ref .nils), (.int .i64 (.ofNat 1))]), (.agg [(.int .u8 (.ofNat 7)), (.int .u8 (.ofNat 1)), (.int .i64 (.ofNat 1)), (.ref (.slc 18696 0 1 1)), (.int .i64 (.ofNat 0))]), (.agg [(.int .u8 (.ofNat 7)), (.int .u8 (.ofNat 1)), (.int .i64 (.negSucc 0)), (.ref .nils), (.int .i64 (.ofNat 0))]), (.agg [(.int .u8 (.ofNat 7)), (.int .u8 (.ofNat 0)), (.int .i64 (.ofNat 1)), (.ref .nils), (.int .i64 (.ofNat 0))])])))], 18698, []⟩

def s8 : CE.Snap := ⟨CE.setE s7.es [(3, (.c (.ref (.ptr 18698 0)))),
  (4, (.c (.ref (.ptr 20937 0)))),
  (5, (.c (.int .i64 (.ofNat 47)))),
  (46, (.c (.int .i64 (.ofNat 1)))),
  (47, (.c (.bool .true))),
  (48, (.c (.ref (.ptr 18697 0)))),
  (49, (.agg [(.int .u8 (.ofNat 0)), (.int .u8 (.ofNat 0)), (.int .i64 (.ofNat 0)), (.ref .nils), (.int .i64 (.ofNat 0))])),
  (50, (.tup [(.agg [(.ref .nils)]), (.c (.int .i64 (.ofNat 47)))])),
  (51, (.agg [(.ref (.slc 18681 0 6 6))])),
  (52, (.agg [(.int .u8 (.ofNat 0)), (.int .u8 (.ofNat 0)), (.int .i64 (.ofNat 0)), (.ref .nils), (.int .i64 (.ofNat 0))])),
  (53, (.tup [(.agg [(.ref .nils)]), (.c (.int .i64 (.ofNat 47)))])),
  (54, (.agg [(.ref .nils)])),
  (55, (.c (.int .i64 (.ofNat 47)))),
  (56, (.c (.int .i64 (.ofNat 47)))),
  (57, (.c (.bool .false))),
  (58, (.c (.bool .false))),
  (59, (.c (.ref (.ptr 20937 0)))),
  (60, (.c (.ref .nils))),
  (61, (.c (.int .i64 (.ofNat 0)))),
  (62, (.c (.bool .false))),
  (63, (.c (.bool .false))),
  (64, (.c (.int .i64 (.ofNat 1))))], CE.dropL [] s7.L ++ [(18698, (.row 34 5 5 .false 0 0 (CE.lt 0 [(.agg [(.int .u8 (.ofNat 0)), (.int .u8 (.ofNat 0)), (.int .i64 (.ofNat 0)), (.ref .nils), (.int .i64 (.ofNat 0))])]))),
  (20937, (.row 31 1 1 .false 0 0 (CE.lt 0 [(.c (.ref .nils))])))], 20938, []⟩

def s9 : CE.Snap := ⟨CE.setE s8.es [(3, (.c (.ref (.ptr 20938 0)))),
  (4, (.c (.ref (.ptr 23177 0)))),
  (46, (.c (.int .i64 (.ofNat 2)))),
  (48, (.c (.ref (.ptr 18697 5)))),
  (49, (.agg [(.int .u8 (.ofNat 7)), (.int .u8 (.ofNat 1)), (.int .i64 (.ofNat 0)), (.ref .nils), (.int .i64 (.ofNat 0))])),
  (52, (.agg [(.int .u8 (.ofNat 7)), (.int .u8 (.ofNat 1)), (.int .i64 (.ofNat 0)), (.ref .nils), (.int .i64 (.ofNat 0))])),
  (59, (.c (.ref (.ptr 23177 0)))),
  (64, (.c (.int .i64 (.ofNat 2))))], CE.dropL [18698, 20937] s8.L ++ [(20938, (.row 34 5 5 .false 0 0 (CE.lt 0 [(.agg [(.int .u8 (.ofNat 7)), (.int .u8 (.ofNat 1)), (.int .i64 (.ofNat 0)), (.ref .nils), (.int .i64 (.ofNat 0))])]))),
  (23177, (.row 31 1 1 .false 0 0 (CE.lt 0 [(.c (.ref .nils))])))], 23178, []⟩

def s10 : CE.Snap := ⟨CE.setE s9.es [(3, (.c (.ref (.ptr 23178 0)))),
  (4, (.c (.ref (.ptr 25417 0)))),
  (46, (.c (.int .i64 (.ofNat 3)))),
  (48, (.c (.ref (.ptr 18697 10)))),
  (49, (.agg [(.int .u8 (.ofNat 7)), (.int .u8 (.ofNat 2)), (.int .i64 (.ofNat 1)), (.ref .nils), (.int .i64 (.ofNat 0))])),
  (52, (.agg [(.int .u8 (.ofNat 7)), (.int .u8 (.ofNat 2)), (.int .i64 (.ofNat 1)), (.ref .nils), (.int .i64 (.ofNat 0))])),
  (59, (.c (.ref (.ptr 25417 0)))),
  (64, (.c (.int .i64 (.ofNat 3))))], CE.dropL [20938, 23177] s9.L ++ [(23178, (.row 34 5 5 .false 0 0 (CE.lt 0 [(.agg [(.int .u8 (.ofNat 7)), (.int .u8 (.ofNat 2)), (.int .i64 (.ofNat 1)), (.ref .nils), (.int .i64 (.ofNat 0))])]))),
  (25417, (.row 31 1 1 .false 0 0 (CE.lt 0 [(.c (.ref .nils))])))], 25418, []⟩

def s11 : CE.Snap := ⟨CE.setE s10.es [(3, (.c (.ref (.ptr 25418 0)))),
  (4, (.c (.ref (.ptr 27657 0)))),
  (46, (.c (.int .i64 (.ofNat 4)))),
  (48, (.c (.ref (.ptr 18697 15)))),
  (49, (.agg [(.int .u8 (.ofNat 6)), (.int .u8 (.ofNat 1)), (.int .i64 (.ofNat 1)), (.ref .nils), (.int .i64 (.ofNat 0))])),
  (52, (.agg [(.int .u8 (.ofNat 6)), (.int .u8 (.ofNat 1)), (.int .i64 (.ofNat 1)), (.ref .nils), (.int .i64 (.ofNat 0))])),
  (59, (.c (.ref (.ptr 27657 0)))),
  (64, (.c (.int .i64 (.ofNat 4))))], CE.dropL [23178, 25417] s10.L ++ [(25418, (.row 34 5 5 .false 0 0 (CE.lt 0 [(.agg [(.int .u8 (.ofNat 6)), (.int .u8 (.ofNat 1)), (.int .i64 (.ofNat 1)), (.ref .nils), (.int .i64 (.ofNat 0))])]))),
  (27657, (.row 31 1 1 .false 0 0 (CE.lt 0 [(.c (.ref .nils))])))], 27658, []⟩

def s12 : CE.Snap := ⟨CE.setE s11.es [(3, (.c (.ref (.ptr 27658 0)))),
  (4, (.c (.ref (.ptr 29897 0)))),
  (46, (.c (.int .i64 (.ofNat 5)))),
  (48, (.c (.ref (.ptr 18697 20)))),
  (49, (.agg [(.int .u8 (.ofNat 7)), (.int .u8 (.ofNat 1)), (.int .i64 (.ofNat 3)), (.ref .nils), (.int .i64 (.ofNat 0))])),
  (52, (.agg [(.int .u8 (.ofNat 7)), (.int .u8 (.ofNat 1)), (.int .i64 (.ofNat 3)), (.ref .nils), (.int .i64 (.ofNat 0))])),
  (59, (.c (.ref (.ptr 29897 0)))),
  (64, (.c (.int .i64 (.ofNat 5))))], CE.dropL [25418, 27657] s11.L ++ [(27658, (.row 34 5 5 .false 0 0 (CE.lt 0 [(.agg [(.int .u8 (.ofNat 7)), (.int .u8 (.ofNat 1)), (.int .i64 (.ofNat 3)), (.ref .nils), (.int .i64 (.ofNat 0))])]))),
  (29897, (.row 31 1 1 .false 0 0 (CE.lt 0 [(.c (.ref .nils))])))], 29898, []⟩

def s13 : CE.Snap := ⟨CE.setE s12.es [(3, (.c (.ref (.ptr 29898 0)))),
  (4, (.c (.ref (.ptr 32137 0)))),
  (46, (.c (.int .i64 (.ofNat 6)))),
  (48, (.c (.ref (.ptr 18697 25)))),
  (49, (.agg [(.int .u8 (.ofNat 7)), (.int .u8 (.ofNat 1)), (.int .i64 (.ofNat 1)), (.ref .nils), (.int .i64 (.ofNat 1))])),
  (52, (.agg [(.int .u8 (.ofNat 7)), (.int .u8 (.ofNat 1)), (.int .i64 (.ofNat 1)), (.ref .nils), (.int .i64 (.ofNat 1))])),
  (59, (.c (.ref (.ptr 32137 0)))),
  (64, (.c (.int .i64 (.ofNat 6))))], CE.dropL [27658, 29897] s12.L ++ [(29898, (.row 34 5 5 .false 0 0 (CE.lt 0 [(.agg [(.int .u8 (.ofNat 7)), (.int .u8 (.ofNat 1)), (.int .i64 (.ofNat 1)), (.ref .nils), (.int .i64 (.ofNat 1))])]))),
  (32137, (.row 31 1 1 .false 0 0 (CE.lt 0 [(.c (.ref .nils))])))], 32138, []⟩

def s14 : CE.Snap := ⟨CE.setE s13.es [(3, (.c (.ref (.ptr 32138 0)))),
  (4, (.c (.ref (.ptr 34377 0)))),
  (46, (.c (.int .i64 (.ofNat 7)))),
  (48, (.c (.ref (.ptr 18697 30)))),
  (49, (.agg [(.int .u8 (.ofNat 7)), (.int .u8 (.ofNat 1)), (.int .i64 (.ofNat 1)), (.ref (.slc 18696 0 1 1)), (.int .i64 (.ofNat 0))])),
  (52, (.agg [(.int .u8 (.ofNat 7)), (.int .u8 (.ofNat 1)), (.int .i64 (.ofNat 1)), (.ref (.slc 18696 0 1 1)), (.int .i64 (.ofNat 0))])),
  (59, (.c (.ref (.ptr 34377 0)))),
  (64, (.c (.int .i64 (.ofNat 7))))], CE.dropL [29898, 32137] s13.L ++ [(32138, (.row 34 5 5 .false 0 0 (CE.lt 0 [(.agg [(.int .u8 (.ofNat 7)), (.int .u8 (.ofNat 1)), (.int .i64 (.ofNat 1)), (.ref (.slc 18696 0 1 1)), (.int .i64 (.ofNat 0))])]))),
  (34377, (.row 31 1 1 .false 0 0 (CE.lt 0 [(.c (.ref .nils))])))], 34378, []⟩

def s15 : CE.Snap := ⟨CE.setE s14.es [(3, (.c (.ref (.ptr 34378 0)))),
  (4, (.c (.ref (.ptr 36617 0)))),
  (46, (.c (.int .i64 (.ofNat 8)))),
  (48, (.c (.ref (.ptr 18697 35)))),
  (49, (.agg [(.int .u8 (.ofNat 7)), (.int .u8 (.ofNat 1)), (.int .i64 (.negSucc 0)), (.ref .nils), (.int .i64 (.ofNat 0))])),
  (52, (.agg [(.int .u8 (.ofNat 7)), (.int .u8 (.ofNat 1)), (.int .i64 (.negSucc 0)), (.ref .nils), (.int .i64 (.ofNat 0))])),
  (59, (.c (.ref (.ptr 36617 0)))),
  (64, (.c (.int .i64 (.ofNat 8))))], CE.dropL [32138, 34377] s14.L ++ [(34378, (.row 34 5 5 .false 0 0 (CE.lt 0 [(.agg [(.int .u8 (.ofNat 7)), (.int .u8 (.ofNat 1)), (.int .i64 (.negSucc 0)), (.ref .nils), (.int .i64 (.ofNat 0))])]))),
  (36617, (.row 31 1 1 .false 0 0 (CE.lt 0 [(.c (.ref .nils))])))], 36618, []⟩

def s16 : CE.Snap := ⟨CE.setE s15.es [(3, (.c (.ref (.ptr 36618 0)))),
  (4, (.c (.ref (.ptr 38857 0)))),
  (46, (.c (.int .i64 (.ofNat 9)))),
  (48, (.c (.ref (.ptr 18697 40)))),
  (49, (.agg [(.int .u8 (.ofNat 7)), (.int .u8 (.ofNat 0)), (.int .i64 (.ofNat 1)), (.ref .nils), (.int .i64 (.ofNat 0))])),
  (52, (.agg [(.int .u8 (.ofNat 7)), (.int .u8 (.ofNat 0)), (.int .i64 (.ofNat 1)), (.ref .nils), (.int .i64 (.ofNat 0))])),
  (59, (.c (.ref (.ptr 38857 0)))),
  (64, (.c (.int .i64 (.ofNat 9))))], CE.dropL [34378, 36617] s15.L ++ [(36618, (.row 34 5 5 .false 0 0 (CE.lt 0 [(.agg [(.int .u8 (.ofNat 7)), (.int .u8 (.ofNat 0)), (.int .i64 (.ofNat 1)), (.ref .nils), (.int .i64 (.ofNat 0))])]))),
  (38857, (.row 31 1 1 .false 0 0 (CE.lt 0 [(.c (.ref .nils))])))], 38858, []⟩

def s17 : CE.Snap := ⟨CE.setE s16.es [(47, (.c (.bool .false)))], CE.dropL [] s16.L ++ [], 38858, []⟩

def s18 : CE.Snap := ⟨CE.setE s17.es [(6, (.c (.ref (.ptr 39198 0)))),
  (7, (.c (.int .i64 (.ofNat 42)))),
  (65, (.tup [(.agg [(.ref .nils)]), (.c (.int .i64 (.ofNat 42)))])),
  (66, (.agg [(.ref (.slc 38990 0 2 2))])),
  (67, (.agg [(.int .u8 (.ofNat 7)), (.int .u8 (.ofNat 1)), (.int .i64 (.ofNat 1)), (.ref .nils), (.int .i64 (.ofNat 0))])),
  (68, (.tup [(.agg [(.ref .nils)]), (.c (.int .i64 (.ofNat 42)))])),
  (69, (.agg [(.ref .nils)])),
  (70, (.c (.int .i64 (.ofNat 42))))], CE.dropL [] s17.L ++ [(38928, (.row 69 9 9 .false 0 0 (CE.lt 0 [(.agg [(.int .u8 (.ofNat 3)), (.int .u64 (.ofNat 0)), (.int .u64 (.ofNat 0)), (.int .u64 (.ofNat 0)), (.int .u64 (.ofNat 0)), (.str [97]), (.int .i64 (.ofNat 0)), (.int .i64 (.ofNat 0)), (.ref .nils)])]))),
  (38963, (.row 69 9 9 .false 0 0 (CE.lt 0 [(.agg [(.int .u8 (.ofNat 2)), (.int .u64 (.ofNat 0)), (.int .u64 (.ofNat 0)), (.int .u64 (.ofNat 0)), (.int .u64 (.ofNat 0)), (.str [120]), (.int .i64 (.ofNat 0)), (.int .i64 (.ofNat 0)), (.ref .nils)])]))),
  (38990, (.row 98 6 3 .true 1 1 (CE.lt 1 [(.agg [(.str [97]), (.ref (.slc 38928 0 1 1)), (.int .i64 (.ofNat 0))]), (.agg [(.str [98]), (.ref (.slc 38963 0 1 1)), (.int .i64 (.ofNat 0))])]))),
  (39198, (.row 31 1 1 .false 0 0 (CE.lt 0 [(.c (.ref .nils))])))], 39199, []⟩

def s19 : CE.Snap := ⟨CE.setE s18.es [(8, (.c (.ref (.ptr 39209 0)))),
  (9, (.c (.int .i64 (.ofNat 4)))),
  (71, (.tup [(.agg [(.ref .nils)]), (.c (.int .i64 (.ofNat 4)))])),
  (72, (.agg [(.ref .nils)])),
  (73, (.agg [(.int .u8 (.ofNat 0)), (.int .u8 (.ofNat 0)), (.int .i64 (.ofNat 0)), (.ref .nils), (.int .i64 (.ofNat 0))])),
  (74, (.tup [(.agg [(.ref .nils)]), (.c (.int .i64 (.ofNat 4)))])),
  (75, (.agg [(.ref .nils)])),
  (76, (.c (.int .i64 (.ofNat 4))))], CE.dropL [] s18.L ++ [(39209, (.row 31 1 1 .false 0 0 (CE.lt 0 [(.c (.ref .nils))])))], 39210, []⟩

def s20 : CE.Snap := ⟨CE.setE s19.es [(10, (.c (.ref (.ptr 39549 0)))),
  (11, (.c (.bool .false))),
  (77, (.tup [(.agg [(.int .u8 (.ofNat 0)), (.int .u8 (.ofNat 0)), (.int .i64 (.ofNat 0)), (.ref .nils), (.int .i64 (.ofNat 0))]), (.c (.bool .false))])),
  (78, (.agg [(.ref (.slc 39342 0 2 2))])),
  (79, (.tup [(.agg [(.int .u8 (.ofNat 0)), (.int .u8 (.ofNat 0)), (.int .i64 (.ofNat 0)), (.ref .nils), (.int .i64 (.ofNat 0))]), (.c (.bool .false))])),
  (80, (.agg [(.int .u8 (.ofNat 0)), (.int .u8 (.ofNat 0)), (.int .i64 (.ofNat 0)), (.ref .nils), (.int .i64 (.ofNat 0))])),
  (81, (.c (.bool .false)))], CE.dropL [] s19.L ++ [(39280, (.row 69 9 9 .false 0 0 (CE.lt 0 [(.agg [(.int .u8 (.ofNat 3)), (.int .u64 (.ofNat 0)), (.int .u64 (.ofNat 0)), (.int .u64 (.ofNat 0)), (.int .u64 (.ofNat 0)), (.str [97]), (.int .i64 (.ofNat 0)), (.int .i64 (.ofNat 0)), (.ref .nils)])]))),
  (39315, (.row 69 9 9 .false 0 0 (CE.lt 0 [(.agg [(.int .u8 (.ofNat 2)), (.int .u64 (.ofNat 0)), (.int .u64 (.ofNat 0)), (.int .u64 (.ofNat 0)), (.int .u64 (.ofNat 0)), (.str [120]), (.int .i64 (.ofNat 0)), (.int .i64 (.ofNat 0)), (.ref .nils)])]))),
  (39342, (.row 98 6 3 .true 1 1 (CE.lt 1 [(.agg [(.str [97]), (.ref (.slc 39280 0 1 1)), (.int .i64 (.ofNat 0))]), (.agg [(.str [98]), (.ref (.slc 39315 0 1 1)), (.int .i64 (.ofNat 0))])]))),
  (39549, (.row 34 5 5 .false 0 0 (CE.lt 0 [(.agg [(.int .u8 (.ofNat 0)), (.int .u8 (.ofNat 0)), (.int .i64 (.ofNat 0)), (.ref .nils), (.int .i64 (.ofNat 0))])])))], 39550, []⟩

def s21 : CE.Snap := ⟨CE.setE s20.es [(12, (.c (.ref (.ptr 39938 0)))),
  (13, (.c (.int .i64 (.ofNat 47)))),
  (82, (.tup [(.agg [(.ref .nils)]), (.c (.int .i64 (.ofNat 47)))])),
  (83, (.agg [(.ref (.slc 39630 0 1 1))])),
  (84, (.agg [(.int .u8 (.ofNat 0)), (.int .u8 (.ofNat 0)), (.int .i64 (.ofNat 0)), (.ref .nils), (.int .i64 (.ofNat 0))])),
  (85, (.tup [(.agg [(.ref .nils)]), (.c (.int .i64 (.ofNat 47)))])),
  (86, (.agg [(.ref .nils)])),
  (87, (.c (.int .i64 (.ofNat 47))))], CE.dropL [] s20.L ++ [(39603, (.row 69 9 9 .false 0 0 (CE.lt 0 [(.agg [(.int .u8 (.ofNat 2)), (.int .u64 (.ofNat 0)), (.int .u64 (.ofNat 0)), (.int .u64 (.ofNat 0)), (.int .u64 (.ofNat 0)), (.str [120]), (.int .i64 (.ofNat 0)), (.int .i64 (.ofNat 0)), (.ref .nils)])]))),
  (39630, (.row 98 3 3 .true 1 0 (CE.lt 0 [(.agg [(.str [97]), (.ref (.slc 39603 0 1 1)), (.int .i64 (.ofNat 0))])]))),
  (39938, (.row 31 1 1 .false 0 0 (CE.lt 0 [(.c (.ref .nils))])))], 39939, []⟩

def s22 : CE.Snap := ⟨CE.setE s21.es [(14, (.c (.ref (.ptr 39945 0)))),
  (15, (.c (.bool .false))),
  (88, (.tup [(.agg [(.ref .nils)]), (.c (.bool .false))])),
  (89, (.agg [(.ref .nils)])),
  (90, (.c (.ref (.slc 39939 0 1 1)))),
  (91, (.tup [(.agg [(.ref .nils)]), (.c (.bool .false))])),
  (92, (.agg [(.ref .nils)])),
  (93, (.c (.bool .false)))], CE.dropL [] s21.L ++ [(39939, (.row 3 1 1 .false 0 0 (CE.lt 0 [(.c (.int .i64 (.ofNat 0)))]))),
  (39945, (.row 31 1 1 .false 0 0 (CE.lt 0 [(.c (.ref .nils))])))], 39946, []⟩

def s23 : CE.Snap := ⟨CE.setE s22.es [(0, (.c (.bool .true))),
  (94, (.c (.int .i64 (.ofNat 42)))),
  (95, (.c (.bool .true))),
  (96, (.c (.bool .true))),
  (97, (.c (.int .i64 (.ofNat 4)))),
  (98, (.c (.bool .true))),
  (99, (.c (.bool .true))),
  (100, (.c (.bool .true))),
  (101, (.c (.bool .false))),
  (102, (.c (.bool .true))),
  (103, (.c (.bool .true))),
  (104, (.c (.bool .true))),
  (105, (.c (.int .i64 (.ofNat 47)))),
  (106, (.c (.bool .true))),
  (107, (.c (.bool .true))),
  (108, (.c (.bool .true))),
  (109, (.c (.bool .false))),
  (110, (.c (.bool .true))),
  (111, (.c (.bool .true))),
  (112, (.c (.bool .true))),
  (113, (.agg [(.ref .nils)])),
  (114, (.c (.ref .nils))),
  (115, (.c (.int .i64 (.ofNat 0)))),
  (116, (.c (.bool .true))),
  (117, (.c (.bool .true))),
  (118, (.c (.bool .true))),
  (119, (.c (.bool .true))),
  (120, (.c (.bool .true))),
  (121, (.c (.bool .true))),
  (122, (.c (.ref (.slc 40901 0 1 1)))),
  (123, (.c (.bool .true))),
  (124, (.c (.bool .true))),
  (125, (.c (.bool .true))),
  (126, (.c (.ref (.slc 41847 0 1 1)))),
  (127, (.c (.bool .true))),
  (128, (.c (.bool .true))),
  (129, (.c (.bool .true))),
  (130, (.c (.ref (.slc 42793 0 2 2)))),
  (131, (.c (.bool .true))),
  (132, (.c (.bool .true))),
  (133, (.c (.bool .true))),
  (134, (.c (.ref (.slc 43739 0 1 1)))),
  (135, (.c (.bool .true))),
  (136, (.c (.bool .true))),
  (137, (.c (.bool .true))),
  (138, (.c (.ref (.slc 44912 0 2 2)))),
  (139, (.c (.bool .true))),
  (140, (.c (.bool .true))),
  (141, (.c (.bool .true))),
  (142, (.c (.ref (.slc 46311 0 1 1)))),
  (143, (.c (.bool .true))),
  (144, (.c (.bool .true))),
  (145, (.c (.bool .true))),
  (146, (.c (.ref (.slc 47284 0 1 1)))),
  (147, (.c (.bool .true))),
  (148, (.c (.bool .true)))], CE.dropL [] s22.L ++ [(40901, (.row 3 1 1 .false 0 0 (CE.lt 0 [(.c (.int .i64 (.negSucc 0)))]))),
  (41847, (.row 3 1 1 .false 0 0 (CE.lt 0 [(.c (.int .i64 (.ofNat 6)))]))),
  (42793, (.row 3 2 1 .false 0 1 (CE.lt 1 [(.c (.int .i64 (.ofNat 5))), (.c (.int .i64 (.ofNat 5)))]))),
  (43739, (.row 3 1 1 .false 0 0 (CE.lt 0 [(.c (.int .i64 (.ofNat 5)))]))),
  (44912, (.row 3 2 1 .false 0 1 (CE.lt 1 [(.c (.int .i64 (.ofNat 5))), (.c (.int .i64 (.ofNat 2)))]))),
  (46311, (.row 3 1 1 .false 0 0 (CE.lt 0 [(.c (.int .i64 (.ofNat 2)))]))),
  (47284, (.row 3 1 1 .false 0 0 (CE.lt 0 [(.c (.int .i64 (.ofNat 0)))])))], 47537, []⟩

def s24 : CE.Snap := ⟨CE.setE s23.es [(1, .top), (2, .top), (3, .top), (4, .top), (5, .top), (6, .top), (7, .top), (8, .top), (9, .top), (10, .top), (12, .top), (13, .top), (14, .top), (18, .top), (33, .top), (34, .top), (35, .top), (36, .top), (37, .top), (38, .top), (39, .top), (40, .top), (41, .top), (42, .top), (43, .top), (44, .top), (45, .top), (46, .top), (48, .top), (49, .top), (50, .top), (51, .top), (52, .top), (53, .top), (54, .top), (55, .top), (56, .top), (59, .top), (60, .top), (61, .top), (64, .top), (65, .top), (66, .top), (67, .top), (68, .top), (69, .top), (70, .top), (71, .top), (72, .top), (73, .top), (74, .top), (75, .top), (76, .top), (77, .top), (78, .top), (79, .top), (80, .top), (82, .top), (83, .top), (84, .top), (85, .top), (86, .top), (87, .top), (88, .top), (89, .top), (90, .top), (91, .top), (92, .top), (94, .top), (97, .top), (105, .top), (113, .top), (114, .top), (115, .top), (122, .top), (126, .top), (130, .top), (134, .top), (138, .top), (142, .top), (146, .top)], CE.dropL [7606, 18231, 18268, 18402, 18407, 18546, 18551, 18589, 18658, 18681, 18695, 18696, 18697, 36618, 38857, 38928, 38963, 38990, 39198, 39209, 39280, 39315, 39342, 39549, 39603, 39630, 39938, 39939, 39945, 40901, 41847, 42793, 43739, 44912, 46311, 47284] s23.L ++ [], 47537, []⟩


end

end Go.Proofs.YtfhjbbklfmmpbaaGreatDoor.pruneNames
