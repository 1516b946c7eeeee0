/- FirstNames: what the kernel works out, in segments. -/
import Derived.Test.YtnbfpalcaibcfaaGreatDoorFirstNamesCut
namespace Go.Proofs.YtnbfpalcaibcfaaGreatDoor.firstNames
open Go

noncomputable section
def s0 : CE.Snap := ⟨List.replicate 172 CE.undefA, gl, 10, []⟩

def s1 : CE.Snap := ⟨[(.c (.bool .false)), (.tup []), (.tup []), (.tup []), (.tup []), (.tup []), (.tup []), (.tup []), (.tup []), (.tup []), (.tup []), (.tup []), (.tup []), (.tup []), (.tup []), (.tup []), (.tup []), (.tup []), (.tup []), (.tup []), (.tup []), (.tup []), (.tup []), (.tup []), (.tup []), (.tup []), (.tup []), (.tup []), (.tup []), (.tup []), (.tup []), (.tup []), (.tup []), (.tup []), (.tup []), (.tup []), (.tup []), (.tup []), (.tup []), (.tup []), (.tup []), (.tup []), (.tup []), (.tup []), (.tup []), (.tup []), (.tup []), (.tup []), (.tup []), (.tup []), (.tup []), (.tup []), (.tup []), (.tup []), (.tup []), (.tup []), (.tup []), (.tup []), (.tup []), (.tup []), (.tup []), (.tup []), (.tup []), (.tup []), (.tup []), (.tup []), (.tup []), (.tup []), (.tup []), (.tup []), (.tup []), (.tup []), (.tup []), (.tup []), (.tup []), (.tup []), (.tup []), (.tup []), (.tup []), (.tup []), (.tup []), (.tup []), (.tup []), (.tup []), (.tup []), (.tup []), (.tup []), (.tup []), (.tup []), (.tup []), (.tup []), (.tup []), (.tup []), (.tup []), (.tup []), (.tup []), (.tup []), (.tup []), (.tup []), (.tup []), (.tup []), (.tup []), (.tup []), (.tup []), (.tup []), (.tup []), (.tup []), (.tup []), (.tup []), (.tup []), (.tup []), (.tup []), (.tup []), (.tup []), (.tup []), (.tup []), (.tup []), (.tup []), (.tup []), (.tup []), (.tup []), (.tup []), (.tup []), (.tup []), (.tup []), (.tup []), (.tup []), (.tup []), (.tup []), (.tup []), (.tup []), (.tup []), (.tup []), (.tup []), (.tup []), (.tup []), (.tup []), (.tup []), (.tup []), (.tup []), (.tup []), (.tup []), (.tup []), (.tup []), (.tup []), (.tup []), (.tup []), (.tup []), (.tup []), (.tup []), (.tup []), (.tup []), (.tup []), (.tup []), (.tup []), (.tup []), (.tup []), (.tup []), (.tup []), (.tup []), (.tup []), (.tup []), (.tup []), (.tup []), (.tup []), (.tup []), (.tup []), (.tup []), (.tup []), (.tup []), (.tup []), (.tup [])], gl ++ [], 10, []⟩

def s2 : CE.Snap := ⟨CE.setE s1.es [(20, (.c (.bool .true))),
  (21, (.c (.bool .false)))], CE.dropL [] s1.L ++ [], 5954, []⟩

def s3 : CE.Snap := ⟨CE.setE s2.es [], CE.dropL [] s2.L ++ [], 5954, []⟩

def s4 : CE.Snap := ⟨[(.c (.bool .false)), (.tup []), (.tup []), (.tup []), (.tup []), (.tup []), (.tup []), (.tup []), (.tup []), (.tup []), (.tup []), (.tup []), (.tup []), (.tup []), (.tup []), (.tup []), (.tup []), (.tup []), (.tup []), (.tup []), (.c (.bool .true)), (.c (.bool .false)), (.agg [(.str [34, 34]), (.str []), (.bool .true)]), (.agg [(.str [91, 97, 98, 99, 93]), (.str [97, 98, 99]), (.bool .false)]), (.agg [(.str [91, 93]), (.str []), (.bool .false)]), (.agg [(.str [97, 32, 98]), (.str [120]), (.bool .false)]), (.agg [(.str [97, 63, 32, 98]), (.str [120, 121]), (.bool .false)]), (.agg [(.str [98]), (.str [121]), (.bool .false)]), (.agg [(.str [99]), (.str []), (.bool .false)]), (.agg [(.str [99, 63]), (.str []), (.bool .true)]), (.agg [(.str [99, 32, 98]), (.str []), (.bool .false)]), (.agg [(.str [100, 32, 98]), (.str [121]), (.bool .false)]), (.agg [(.str [100]), (.str []), (.bool .true)]), (.agg [(.str [101]), (.str [119]), (.bool .false)]), (.agg [(.str [102]), (.str [113]), (.bool .true)]), (.agg [(.str [102, 32, 102, 32, 97]), (.str [113, 120]), (.bool .false)]), (.agg [(.str [97, 32, 47, 32, 98]), (.str [120, 121]), (.bool .false)]), (.agg [(.str [97, 32, 47, 32, 100]), (.str [120]), (.bool .true)]), (.agg [(.str [100, 32, 47, 32, 97]), (.str [120]), (.bool .true)]), (.agg [(.str [97, 123, 48, 125]), (.str []), (.bool .true)]), (.agg [(.str [97, 123, 48, 44, 51, 125]), (.str [120]), (.bool .true)]), (.agg [(.str [97, 123, 50, 125]), (.str [120]), (.bool .false)]), (.agg [(.str [100, 123, 50, 125]), (.str []), (.bool .true)]), (.agg [(.str [102, 123, 50, 44, 52, 125, 32, 98]), (.str [113, 121]), (.bool .false)]), (.agg [(.str [97, 43, 32, 98]), (.str [120]), (.bool .false)]), (.agg [(.str [38, 97]), (.str []), (.bool .true)]), (.agg [(.str [38, 100]), (.str []), (.bool .true)]), (.agg [(.str [38, 91, 93]), (.str []), (.bool .false)]), (.agg [(.str [33, 97]), (.str []), (.bool .false)]), (.agg [(.str [33, 34, 120, 34]), (.str []), (.bool .true)]), (.agg [(.str [33, 100]), (.str []), (.bool .false)]), (.agg [(.str [33, 91, 93]), (.str []), (.bool .true)]), (.agg [(.str [33, 100, 32, 97]), (.str []), (.bool .false)]), (.agg [(.str [38, 97, 32, 98]), (.str [121]), (.bool .false)]), (.agg [(.str [60, 110, 58, 32, 102, 62, 32, 97]), (.str [113, 120]), (.bool .false)]), (.agg [(.str [38, 99, 32, 97]), (.str []), (.bool .false)]), (.agg [(.str [34, 112, 113, 34, 32, 47, 32, 91, 111, 45, 114, 93]), (.str [111, 112, 113, 114]), (.bool .false)]), (.c (.ref (.slc 5954 0 35 35))), (.c (.int .i64 (.ofNat 35))), (.c (.int .i64 (.ofNat 0))), (.tup []), (.tup []), (.tup []), (.tup []), (.tup []), (.tup []), (.tup []), (.tup []), (.tup []), (.tup []), (.tup []), (.tup []), (.tup []), (.tup []), (.tup []), (.tup []), (.tup []), (.tup []), (.tup []), (.tup []), (.tup []), (.tup []), (.tup []), (.tup []), (.tup []), (.tup []), (.tup []), (.tup []), (.tup []), (.tup []), (.tup []), (.tup []), (.tup []), (.tup []), (.tup []), (.tup []), (.tup []), (.tup []), (.tup []), (.tup []), (.tup []), (.tup []), (.tup []), (.tup []), (.tup []), (.tup []), (.tup []), (.tup []), (.tup []), (.tup []), (.tup []), (.tup []), (.tup []), (.tup []), (.tup []), (.tup []), (.tup []), (.tup []), (.tup []), (.tup []), (.tup []), (.tup []), (.tup []), (.tup []), (.tup []), (.tup []), (.tup []), (.tup []), (.tup []), (.tup []), (.tup []), (.tup []), (.tup []), (.tup []), (.tup []), (.tup []), (.tup []), (.tup []), (.tup []), (.tup []), (.tup []), (.tup []), (.tup []), (.tup []), (.tup []), (.tup []), (.tup []), (.tup []), (.tup []), (.tup []), (.tup []), (.tup []), (.tup []), (.tup []), (.tup []), (.tup []), (.tup []), (.tup []), (.tup []), (.tup []), (.tup []), (.tup []), (.tup []), (.tup []), (.tup []), (.tup []), (.tup []), (.tup []), (.tup []), (.tup []), (.tup []), (.tup [])], gl ++ [(5954, (.row 23 105 3 .false 0 2 (CE.lt 2 [(.agg [(.str [34, 34]), (.str []), (.bool .true)]), (.agg [(.str [91, 97, 98, 99, 93]), (.str [97, 98, 99]), (.bool .false)]), (.agg [(.str [91, 93]), (.str []), (.bool .false)]), (.agg [(.str [97, 32, 98]), (.str [120]), (.bool .false)]), (.agg [(.str [97, 63, 32, 98]), (.str [120, 121]), (.bool .false)]), (.agg [(.str [98]), (.str [121]), (.bool .false)]), (.agg [(.str [99]), (.str []), (.bool .false)]), (.agg [(.str [99, 63]), (.str []), (.bool .true)]), (.agg [(.str [99, 32, 98]), (.str []), (.bool .false)]), (.agg [(.str [100, 32, 98]), (.str [121]), (.bool .false)]), (.agg [(.str [100]), (.str []), (.bool .true)]), (.agg [(.str [101]), (.str [119]), (.bool .false)]), (.agg [(.str [102]), (.str [113]), (.bool .true)]), (.agg [(.str [102, 32, 102, 32, 97]), (.str [113, 120]), (.bool .false)]), (.agg [(.str [97, 32, 47, 32, 98]), (.str [120, 121]), (.bool .false)]), (.agg [(.str [97, 32, 47, 32, 100]), (.str [120]), (.bool .true)]), (.agg [(.str [100, 32, 47, 32, 97]), (.str [120]), (.bool .true)]), (.agg [(.str [97, 123, 48, 125]), (.str []), (.bool .true)]), (.agg [(.str [97, 123, 48, 44, 51, 125]), (.str [120]), (.bool .true)]), (.agg [(.str [97, 123, 50, 125]), (.str [120]), (.bool .false)]), (.agg [(.str [100, 123, 50, 125]), (.str []), (.bool .true)]), (.agg [(.str [102, 123, 50, 44, 52, 125, 32, 98]), (.str [113, 121]), (.bool .false)]), (.agg [(.str [97, 43, 32, 98]), (.str [120]), (.bool .false)]), (.agg [(.str [38, 97]), (.str []), (.bool .true)]), (.agg [(.str [38, 100]), (.str []), (.bool .true)]), (.agg [(.str [38, 91, 93]), (.str []), (.bool .false)]), (.agg [(.str [33, 97]), (.str []), (.bool .false)]), (.agg [(.str [33, 34, 120, 34]), (.str []), (.bool .true)]), (.agg [(.str [33, 100]), (.str []), (.bool .false)]), (.agg [(.str [33, 91, 93]), (.str []), (.bool .true)]), (.agg [(.str [33, 100, 32, 97]), (.str []), (.bool .false)]), (.agg [(.str [38, 97, 32, 98]), (.str [121]), (.bool .false)]), (.agg [(.str [60, 110, 58, 32, 102, 62, 32, 97]), (.str [113, 120]), (.bool .false)]), (.agg [(.str [38, 99, 32, 97]), (.str []), (.bool .false)]), (.agg [(.str [34, 112, 113, 34, 32, 47, 32, 91, 111, 45, 114, 93]), (.str [111, 112, 113, 114]), (.bool .false)])])))], 5955, []⟩

def s5 : CE.Snap := ⟨CE.setE s4.es [(60, (.c (.bool .true)))], CE.dropL [] s4.L ++ [], 5955, []⟩

def s6 : CE.Snap := ⟨CE.setE s5.es [], CE.dropL [] s5.L ++ [], 5955, []⟩

def s7 : CE.Snap := ⟨CE.setE s6.es [(2, (.c (.ref (.ptr 5955 0)))),
  (61, (.c (.ref (.ptr 5954 0)))),
  (62, (.agg [(.str [34, 34]), (.str []), (.bool .true)]))], CE.dropL [] s6.L ++ [(5955, (.row 23 3 3 .false 0 0 (CE.lt 0 [(.agg [(.str [34, 34]), (.str []), (.bool .true)])])))], 5956, []⟩

def s8 : CE.Snap := ⟨CE.setE s7.es [(63, (.c (.ref (.ptr 5955 0)))),
  (64, (.c (.str [34, 34]))),
  (65, (.c (.ref (.ptr 5955 1)))),
  (66, (.c (.str []))),
  (67, (.c (.ref (.ptr 5955 2)))),
  (68, (.c (.bool .true))),
  (69, (.c (.bool .true))),
  (70, (.c (.bool .false)))], CE.dropL [] s7.L ++ [], 10427, []⟩

def s9 : CE.Snap := ⟨CE.setE s8.es [], CE.dropL [] s8.L ++ [], 10427, []⟩

def s10 : CE.Snap := ⟨CE.setE s9.es [(59, (.c (.int .i64 (.ofNat 1)))),
  (71, (.c (.int .i64 (.ofNat 1))))], CE.dropL [] s9.L ++ [], 10427, []⟩

def s11 : CE.Snap := ⟨CE.setE s10.es [], CE.dropL [] s10.L ++ [], 10427, []⟩

def s12 : CE.Snap := ⟨CE.setE s11.es [], CE.dropL [] s11.L ++ [], 10427, []⟩

def s13 : CE.Snap := ⟨CE.setE s12.es [(2, (.c (.ref (.ptr 10427 0)))),
  (61, (.c (.ref (.ptr 5954 3)))),
  (62, (.agg [(.str [91, 97, 98, 99, 93]), (.str [97, 98, 99]), (.bool .false)]))], CE.dropL [] s12.L ++ [(10427, (.row 23 3 3 .false 0 0 (CE.lt 0 [(.agg [(.str [91, 97, 98, 99, 93]), (.str [97, 98, 99]), (.bool .false)])])))], 10428, []⟩

def s14 : CE.Snap := ⟨CE.setE s13.es [(63, (.c (.ref (.ptr 10427 0)))),
  (64, (.c (.str [91, 97, 98, 99, 93]))),
  (65, (.c (.ref (.ptr 10427 1)))),
  (66, (.c (.str [97, 98, 99]))),
  (67, (.c (.ref (.ptr 10427 2)))),
  (68, (.c (.bool .false)))], CE.dropL [5955] s13.L ++ [], 14900, []⟩

def s15 : CE.Snap := ⟨CE.setE s14.es [], CE.dropL [] s14.L ++ [], 14900, []⟩

def s16 : CE.Snap := ⟨CE.setE s15.es [(59, (.c (.int .i64 (.ofNat 2)))),
  (71, (.c (.int .i64 (.ofNat 2))))], CE.dropL [] s15.L ++ [], 14900, []⟩

def s17 : CE.Snap := ⟨CE.setE s16.es [], CE.dropL [] s16.L ++ [], 14900, []⟩

def s18 : CE.Snap := ⟨CE.setE s17.es [], CE.dropL [] s17.L ++ [], 14900, []⟩

def s19 : CE.Snap := ⟨CE.setE s18.es [(2, (.c (.ref (.ptr 14900 0)))),
  (61, (.c (.ref (.ptr 5954 6)))),
  (62, (.agg [(.str [91, 93]), (.str []), (.bool .false)]))], CE.dropL [] s18.L ++ [(14900, (.row 23 3 3 .false 0 0 (CE.lt 0 [(.agg [(.str [91, 93]), (.str []), (.bool .false)])])))], 14901, []⟩

def s20 : CE.Snap := ⟨CE.setE s19.es [(63, (.c (.ref (.ptr 14900 0)))),
  (64, (.c (.str [91, 93]))),
  (65, (.c (.ref (.ptr 14900 1)))),
  (66, (.c (.str []))),
  (67, (.c (.ref (.ptr 14900 2))))], CE.dropL [10427] s19.L ++ [], 19346, []⟩

def s21 : CE.Snap := ⟨CE.setE s20.es [], CE.dropL [] s20.L ++ [], 19346, []⟩

def s22 : CE.Snap := ⟨CE.setE s21.es [(59, (.c (.int .i64 (.ofNat 3)))),
  (71, (.c (.int .i64 (.ofNat 3))))], CE.dropL [] s21.L ++ [], 19346, []⟩

def s23 : CE.Snap := ⟨CE.setE s22.es [], CE.dropL [] s22.L ++ [], 19346, []⟩

def s24 : CE.Snap := ⟨CE.setE s23.es [], CE.dropL [] s23.L ++ [], 19346, []⟩

def s25 : CE.Snap := ⟨CE.setE s24.es [(2, (.c (.ref (.ptr 19346 0)))),
  (61, (.c (.ref (.ptr 5954 9)))),
  (62, (.agg [(.str [97, 32, 98]), (.str [120]), (.bool .false)]))], CE.dropL [] s24.L ++ [(19346, (.row 23 3 3 .false 0 0 (CE.lt 0 [(.agg [(.str [97, 32, 98]), (.str [120]), (.bool .false)])])))], 19347, []⟩

def s26 : CE.Snap := ⟨CE.setE s25.es [(63, (.c (.ref (.ptr 19346 0)))),
  (64, (.c (.str [97, 32, 98]))),
  (65, (.c (.ref (.ptr 19346 1)))),
  (66, (.c (.str [120]))),
  (67, (.c (.ref (.ptr 19346 2))))], CE.dropL [14900] s25.L ++ [], 23946, []⟩

def s27 : CE.Snap := ⟨CE.setE s26.es [], CE.dropL [] s26.L ++ [], 23946, []⟩

def s28 : CE.Snap := ⟨CE.setE s27.es [(59, (.c (.int .i64 (.ofNat 4)))),
  (71, (.c (.int .i64 (.ofNat 4))))], CE.dropL [] s27.L ++ [], 23946, []⟩

def s29 : CE.Snap := ⟨CE.setE s28.es [], CE.dropL [] s28.L ++ [], 23946, []⟩

def s30 : CE.Snap := ⟨CE.setE s29.es [], CE.dropL [] s29.L ++ [], 23946, []⟩

def s31 : CE.Snap := ⟨CE.setE s30.es [(2, (.c (.ref (.ptr 23946 0)))),
  (61, (.c (.ref (.ptr 5954 12)))),
  (62, (.agg [(.str [97, 63, 32, 98]), (.str [120, 121]), (.bool .false)]))], CE.dropL [] s30.L ++ [(23946, (.row 23 3 3 .false 0 0 (CE.lt 0 [(.agg [(.str [97, 63, 32, 98]), (.str [120, 121]), (.bool .false)])])))], 23947, []⟩

def s32 : CE.Snap := ⟨CE.setE s31.es [(63, (.c (.ref (.ptr 23946 0)))),
  (64, (.c (.str [97, 63, 32, 98]))),
  (65, (.c (.ref (.ptr 23946 1)))),
  (66, (.c (.str [120, 121]))),
  (67, (.c (.ref (.ptr 23946 2))))], CE.dropL [19346] s31.L ++ [], 28645, []⟩

def s33 : CE.Snap := ⟨CE.setE s32.es [], CE.dropL [] s32.L ++ [], 28645, []⟩

def s34 : CE.Snap := ⟨CE.setE s33.es [(59, (.c (.int .i64 (.ofNat 5)))),
  (71, (.c (.int .i64 (.ofNat 5))))], CE.dropL [] s33.L ++ [], 28645, []⟩

def s35 : CE.Snap := ⟨CE.setE s34.es [], CE.dropL [] s34.L ++ [], 28645, []⟩

def s36 : CE.Snap := ⟨CE.setE s35.es [], CE.dropL [] s35.L ++ [], 28645, []⟩

def s37 : CE.Snap := ⟨CE.setE s36.es [(2, (.c (.ref (.ptr 28645 0)))),
  (61, (.c (.ref (.ptr 5954 15)))),
  (62, (.agg [(.str [98]), (.str [121]), (.bool .false)]))], CE.dropL [] s36.L ++ [(28645, (.row 23 3 3 .false 0 0 (CE.lt 0 [(.agg [(.str [98]), (.str [121]), (.bool .false)])])))], 28646, []⟩

def s38 : CE.Snap := ⟨CE.setE s37.es [(63, (.c (.ref (.ptr 28645 0)))),
  (64, (.c (.str [98]))),
  (65, (.c (.ref (.ptr 28645 1)))),
  (66, (.c (.str [121]))),
  (67, (.c (.ref (.ptr 28645 2))))], CE.dropL [23946] s37.L ++ [], 33086, []⟩

def s39 : CE.Snap := ⟨CE.setE s38.es [], CE.dropL [] s38.L ++ [], 33086, []⟩

def s40 : CE.Snap := ⟨CE.setE s39.es [(59, (.c (.int .i64 (.ofNat 6)))),
  (71, (.c (.int .i64 (.ofNat 6))))], CE.dropL [] s39.L ++ [], 33086, []⟩

def s41 : CE.Snap := ⟨CE.setE s40.es [], CE.dropL [] s40.L ++ [], 33086, []⟩

def s42 : CE.Snap := ⟨CE.setE s41.es [], CE.dropL [] s41.L ++ [], 33086, []⟩

def s43 : CE.Snap := ⟨CE.setE s42.es [(2, (.c (.ref (.ptr 33086 0)))),
  (61, (.c (.ref (.ptr 5954 18)))),
  (62, (.agg [(.str [99]), (.str []), (.bool .false)]))], CE.dropL [] s42.L ++ [(33086, (.row 23 3 3 .false 0 0 (CE.lt 0 [(.agg [(.str [99]), (.str []), (.bool .false)])])))], 33087, []⟩

def s44 : CE.Snap := ⟨CE.setE s43.es [(63, (.c (.ref (.ptr 33086 0)))),
  (64, (.c (.str [99]))),
  (65, (.c (.ref (.ptr 33086 1)))),
  (66, (.c (.str []))),
  (67, (.c (.ref (.ptr 33086 2))))], CE.dropL [28645] s43.L ++ [], 37527, []⟩

def s45 : CE.Snap := ⟨CE.setE s44.es [], CE.dropL [] s44.L ++ [], 37527, []⟩

def s46 : CE.Snap := ⟨CE.setE s45.es [(59, (.c (.int .i64 (.ofNat 7)))),
  (71, (.c (.int .i64 (.ofNat 7))))], CE.dropL [] s45.L ++ [], 37527, []⟩

def s47 : CE.Snap := ⟨CE.setE s46.es [], CE.dropL [] s46.L ++ [], 37527, []⟩

def s48 : CE.Snap := ⟨CE.setE s47.es [], CE.dropL [] s47.L ++ [], 37527, []⟩

def s49 : CE.Snap := ⟨CE.setE s48.es [(2, (.c (.ref (.ptr 37527 0)))),
  (61, (.c (.ref (.ptr 5954 21)))),
  (62, (.agg [(.str [99, 63]), (.str []), (.bool .true)]))], CE.dropL [] s48.L ++ [(37527, (.row 23 3 3 .false 0 0 (CE.lt 0 [(.agg [(.str [99, 63]), (.str []), (.bool .true)])])))], 37528, []⟩

def s50 : CE.Snap := ⟨CE.setE s49.es [(63, (.c (.ref (.ptr 37527 0)))),
  (64, (.c (.str [99, 63]))),
  (65, (.c (.ref (.ptr 37527 1)))),
  (67, (.c (.ref (.ptr 37527 2)))),
  (68, (.c (.bool .true)))], CE.dropL [33086] s49.L ++ [], 42048, []⟩

def s51 : CE.Snap := ⟨CE.setE s50.es [], CE.dropL [] s50.L ++ [], 42048, []⟩

def s52 : CE.Snap := ⟨CE.setE s51.es [(59, (.c (.int .i64 (.ofNat 8)))),
  (71, (.c (.int .i64 (.ofNat 8))))], CE.dropL [] s51.L ++ [], 42048, []⟩

def s53 : CE.Snap := ⟨CE.setE s52.es [], CE.dropL [] s52.L ++ [], 42048, []⟩

def s54 : CE.Snap := ⟨CE.setE s53.es [], CE.dropL [] s53.L ++ [], 42048, []⟩

def s55 : CE.Snap := ⟨CE.setE s54.es [(2, (.c (.ref (.ptr 42048 0)))),
  (61, (.c (.ref (.ptr 5954 24)))),
  (62, (.agg [(.str [99, 32, 98]), (.str []), (.bool .false)]))], CE.dropL [] s54.L ++ [(42048, (.row 23 3 3 .false 0 0 (CE.lt 0 [(.agg [(.str [99, 32, 98]), (.str []), (.bool .false)])])))], 42049, []⟩

def s56 : CE.Snap := ⟨CE.setE s55.es [(63, (.c (.ref (.ptr 42048 0)))),
  (64, (.c (.str [99, 32, 98]))),
  (65, (.c (.ref (.ptr 42048 1)))),
  (67, (.c (.ref (.ptr 42048 2)))),
  (68, (.c (.bool .false)))], CE.dropL [37527] s55.L ++ [], 46649, []⟩

def s57 : CE.Snap := ⟨CE.setE s56.es [], CE.dropL [] s56.L ++ [], 46649, []⟩

def s58 : CE.Snap := ⟨CE.setE s57.es [(59, (.c (.int .i64 (.ofNat 9)))),
  (71, (.c (.int .i64 (.ofNat 9))))], CE.dropL [] s57.L ++ [], 46649, []⟩

def s59 : CE.Snap := ⟨CE.setE s58.es [], CE.dropL [] s58.L ++ [], 46649, []⟩

def s60 : CE.Snap := ⟨CE.setE s59.es [], CE.dropL [] s59.L ++ [], 46649, []⟩

def s61 : CE.Snap := ⟨CE.setE s60.es [(2, (.c (.ref (.ptr 46649 0)))),
  (61, (.c (.ref (.ptr 5954 27)))),
  (62, (.agg [(.str [100, 32, 98]), (.str [121]), (.bool .false)]))], CE.dropL [] s60.L ++ [(46649, (.row 23 3 3 .false 0 0 (CE.lt 0 [(.agg [(.str [100, 32, 98]), (.str [121]), (.bool .false)])])))], 46650, []⟩

def s62 : CE.Snap := ⟨CE.setE s61.es [(63, (.c (.ref (.ptr 46649 0)))),
  (64, (.c (.str [100, 32, 98]))),
  (65, (.c (.ref (.ptr 46649 1)))),
  (66, (.c (.str [121]))),
  (67, (.c (.ref (.ptr 46649 2))))], CE.dropL [42048] s61.L ++ [], 51257, []⟩

def s63 : CE.Snap := ⟨CE.setE s62.es [], CE.dropL [] s62.L ++ [], 51257, []⟩

def s64 : CE.Snap := ⟨CE.setE s63.es [(59, (.c (.int .i64 (.ofNat 10)))),
  (71, (.c (.int .i64 (.ofNat 10))))], CE.dropL [] s63.L ++ [], 51257, []⟩

def s65 : CE.Snap := ⟨CE.setE s64.es [], CE.dropL [] s64.L ++ [], 51257, []⟩

def s66 : CE.Snap := ⟨CE.setE s65.es [], CE.dropL [] s65.L ++ [], 51257, []⟩

def s67 : CE.Snap := ⟨CE.setE s66.es [(2, (.c (.ref (.ptr 51257 0)))),
  (61, (.c (.ref (.ptr 5954 30)))),
  (62, (.agg [(.str [100]), (.str []), (.bool .true)]))], CE.dropL [] s66.L ++ [(51257, (.row 23 3 3 .false 0 0 (CE.lt 0 [(.agg [(.str [100]), (.str []), (.bool .true)])])))], 51258, []⟩

def s68 : CE.Snap := ⟨CE.setE s67.es [(63, (.c (.ref (.ptr 51257 0)))),
  (64, (.c (.str [100]))),
  (65, (.c (.ref (.ptr 51257 1)))),
  (66, (.c (.str []))),
  (67, (.c (.ref (.ptr 51257 2)))),
  (68, (.c (.bool .true)))], CE.dropL [46649] s67.L ++ [], 55700, []⟩

def s69 : CE.Snap := ⟨CE.setE s68.es [], CE.dropL [] s68.L ++ [], 55700, []⟩

def s70 : CE.Snap := ⟨CE.setE s69.es [(59, (.c (.int .i64 (.ofNat 11)))),
  (71, (.c (.int .i64 (.ofNat 11))))], CE.dropL [] s69.L ++ [], 55700, []⟩

def s71 : CE.Snap := ⟨CE.setE s70.es [], CE.dropL [] s70.L ++ [], 55700, []⟩

def s72 : CE.Snap := ⟨CE.setE s71.es [], CE.dropL [] s71.L ++ [], 55700, []⟩

def s73 : CE.Snap := ⟨CE.setE s72.es [(2, (.c (.ref (.ptr 55700 0)))),
  (61, (.c (.ref (.ptr 5954 33)))),
  (62, (.agg [(.str [101]), (.str [119]), (.bool .false)]))], CE.dropL [] s72.L ++ [(55700, (.row 23 3 3 .false 0 0 (CE.lt 0 [(.agg [(.str [101]), (.str [119]), (.bool .false)])])))], 55701, []⟩

def s74 : CE.Snap := ⟨CE.setE s73.es [(63, (.c (.ref (.ptr 55700 0)))),
  (64, (.c (.str [101]))),
  (65, (.c (.ref (.ptr 55700 1)))),
  (66, (.c (.str [119]))),
  (67, (.c (.ref (.ptr 55700 2)))),
  (68, (.c (.bool .false)))], CE.dropL [51257] s73.L ++ [], 60147, []⟩

def s75 : CE.Snap := ⟨CE.setE s74.es [], CE.dropL [] s74.L ++ [], 60147, []⟩

def s76 : CE.Snap := ⟨CE.setE s75.es [(59, (.c (.int .i64 (.ofNat 12)))),
  (71, (.c (.int .i64 (.ofNat 12))))], CE.dropL [] s75.L ++ [], 60147, []⟩

def s77 : CE.Snap := ⟨CE.setE s76.es [], CE.dropL [] s76.L ++ [], 60147, []⟩

def s78 : CE.Snap := ⟨CE.setE s77.es [], CE.dropL [] s77.L ++ [], 60147, []⟩

def s79 : CE.Snap := ⟨CE.setE s78.es [(2, (.c (.ref (.ptr 60147 0)))),
  (61, (.c (.ref (.ptr 5954 36)))),
  (62, (.agg [(.str [102]), (.str [113]), (.bool .true)]))], CE.dropL [] s78.L ++ [(60147, (.row 23 3 3 .false 0 0 (CE.lt 0 [(.agg [(.str [102]), (.str [113]), (.bool .true)])])))], 60148, []⟩

def s80 : CE.Snap := ⟨CE.setE s79.es [(63, (.c (.ref (.ptr 60147 0)))),
  (64, (.c (.str [102]))),
  (65, (.c (.ref (.ptr 60147 1)))),
  (66, (.c (.str [113]))),
  (67, (.c (.ref (.ptr 60147 2)))),
  (68, (.c (.bool .true)))], CE.dropL [55700] s79.L ++ [], 64596, []⟩

def s81 : CE.Snap := ⟨CE.setE s80.es [], CE.dropL [] s80.L ++ [], 64596, []⟩

def s82 : CE.Snap := ⟨CE.setE s81.es [(59, (.c (.int .i64 (.ofNat 13)))),
  (71, (.c (.int .i64 (.ofNat 13))))], CE.dropL [] s81.L ++ [], 64596, []⟩

def s83 : CE.Snap := ⟨CE.setE s82.es [], CE.dropL [] s82.L ++ [], 64596, []⟩

def s84 : CE.Snap := ⟨CE.setE s83.es [], CE.dropL [] s83.L ++ [], 64596, []⟩

def s85 : CE.Snap := ⟨CE.setE s84.es [(2, (.c (.ref (.ptr 64596 0)))),
  (61, (.c (.ref (.ptr 5954 39)))),
  (62, (.agg [(.str [102, 32, 102, 32, 97]), (.str [113, 120]), (.bool .false)]))], CE.dropL [] s84.L ++ [(64596, (.row 23 3 3 .false 0 0 (CE.lt 0 [(.agg [(.str [102, 32, 102, 32, 97]), (.str [113, 120]), (.bool .false)])])))], 64597, []⟩

def s86 : CE.Snap := ⟨CE.setE s85.es [(63, (.c (.ref (.ptr 64596 0)))),
  (64, (.c (.str [102, 32, 102, 32, 97]))),
  (65, (.c (.ref (.ptr 64596 1)))),
  (66, (.c (.str [113, 120]))),
  (67, (.c (.ref (.ptr 64596 2)))),
  (68, (.c (.bool .false)))], CE.dropL [60147] s85.L ++ [], 69285, []⟩

def s87 : CE.Snap := ⟨CE.setE s86.es [], CE.dropL [] s86.L ++ [], 69285, []⟩

def s88 : CE.Snap := ⟨CE.setE s87.es [(59, (.c (.int .i64 (.ofNat 14)))),
  (71, (.c (.int .i64 (.ofNat 14))))], CE.dropL [] s87.L ++ [], 69285, []⟩

def s89 : CE.Snap := ⟨CE.setE s88.es [], CE.dropL [] s88.L ++ [], 69285, []⟩

def s90 : CE.Snap := ⟨CE.setE s89.es [], CE.dropL [] s89.L ++ [], 69285, []⟩

def s91 : CE.Snap := ⟨CE.setE s90.es [(2, (.c (.ref (.ptr 69285 0)))),
  (61, (.c (.ref (.ptr 5954 42)))),
  (62, (.agg [(.str [97, 32, 47, 32, 98]), (.str [120, 121]), (.bool .false)]))], CE.dropL [] s90.L ++ [(69285, (.row 23 3 3 .false 0 0 (CE.lt 0 [(.agg [(.str [97, 32, 47, 32, 98]), (.str [120, 121]), (.bool .false)])])))], 69286, []⟩

def s92 : CE.Snap := ⟨CE.setE s91.es [(63, (.c (.ref (.ptr 69285 0)))),
  (64, (.c (.str [97, 32, 47, 32, 98]))),
  (65, (.c (.ref (.ptr 69285 1)))),
  (66, (.c (.str [120, 121]))),
  (67, (.c (.ref (.ptr 69285 2))))], CE.dropL [64596] s91.L ++ [], 73894, []⟩

def s93 : CE.Snap := ⟨CE.setE s92.es [], CE.dropL [] s92.L ++ [], 73894, []⟩

def s94 : CE.Snap := ⟨CE.setE s93.es [(59, (.c (.int .i64 (.ofNat 15)))),
  (71, (.c (.int .i64 (.ofNat 15))))], CE.dropL [] s93.L ++ [], 73894, []⟩

def s95 : CE.Snap := ⟨CE.setE s94.es [], CE.dropL [] s94.L ++ [], 73894, []⟩

def s96 : CE.Snap := ⟨CE.setE s95.es [], CE.dropL [] s95.L ++ [], 73894, []⟩

def s97 : CE.Snap := ⟨CE.setE s96.es [(2, (.c (.ref (.ptr 73894 0)))),
  (61, (.c (.ref (.ptr 5954 45)))),
  (62, (.agg [(.str [97, 32, 47, 32, 100]), (.str [120]), (.bool .true)]))], CE.dropL [] s96.L ++ [(73894, (.row 23 3 3 .false 0 0 (CE.lt 0 [(.agg [(.str [97, 32, 47, 32, 100]), (.str [120]), (.bool .true)])])))], 73895, []⟩

def s98 : CE.Snap := ⟨CE.setE s97.es [(63, (.c (.ref (.ptr 73894 0)))),
  (64, (.c (.str [97, 32, 47, 32, 100]))),
  (65, (.c (.ref (.ptr 73894 1)))),
  (66, (.c (.str [120]))),
  (67, (.c (.ref (.ptr 73894 2)))),
  (68, (.c (.bool .true)))], CE.dropL [69285] s97.L ++ [], 78505, []⟩

def s99 : CE.Snap := ⟨CE.setE s98.es [], CE.dropL [] s98.L ++ [], 78505, []⟩

def s100 : CE.Snap := ⟨CE.setE s99.es [(59, (.c (.int .i64 (.ofNat 16)))),
  (71, (.c (.int .i64 (.ofNat 16))))], CE.dropL [] s99.L ++ [], 78505, []⟩

def s101 : CE.Snap := ⟨CE.setE s100.es [], CE.dropL [] s100.L ++ [], 78505, []⟩

def s102 : CE.Snap := ⟨CE.setE s101.es [], CE.dropL [] s101.L ++ [], 78505, []⟩

def s103 : CE.Snap := ⟨CE.setE s102.es [(2, (.c (.ref (.ptr 78505 0)))),
  (61, (.c (.ref (.ptr 5954 48)))),
  (62, (.agg [(.str [100, 32, 47, 32, 97]), (.str [120]), (.bool .true)]))], CE.dropL [] s102.L ++ [(78505, (.row 23 3 3 .false 0 0 (CE.lt 0 [(.agg [(.str [100, 32, 47, 32, 97]), (.str [120]), (.bool .true)])])))], 78506, []⟩

def s104 : CE.Snap := ⟨CE.setE s103.es [(63, (.c (.ref (.ptr 78505 0)))),
  (64, (.c (.str [100, 32, 47, 32, 97]))),
  (65, (.c (.ref (.ptr 78505 1)))),
  (67, (.c (.ref (.ptr 78505 2))))], CE.dropL [73894] s103.L ++ [], 83116, []⟩

def s105 : CE.Snap := ⟨CE.setE s104.es [], CE.dropL [] s104.L ++ [], 83116, []⟩

def s106 : CE.Snap := ⟨CE.setE s105.es [(59, (.c (.int .i64 (.ofNat 17)))),
  (71, (.c (.int .i64 (.ofNat 17))))], CE.dropL [] s105.L ++ [], 83116, []⟩

def s107 : CE.Snap := ⟨CE.setE s106.es [], CE.dropL [] s106.L ++ [], 83116, []⟩

def s108 : CE.Snap := ⟨CE.setE s107.es [], CE.dropL [] s107.L ++ [], 83116, []⟩

def s109 : CE.Snap := ⟨CE.setE s108.es [(2, (.c (.ref (.ptr 83116 0)))),
  (61, (.c (.ref (.ptr 5954 51)))),
  (62, (.agg [(.str [97, 123, 48, 125]), (.str []), (.bool .true)]))], CE.dropL [] s108.L ++ [(83116, (.row 23 3 3 .false 0 0 (CE.lt 0 [(.agg [(.str [97, 123, 48, 125]), (.str []), (.bool .true)])])))], 83117, []⟩

def s110 : CE.Snap := ⟨CE.setE s109.es [(63, (.c (.ref (.ptr 83116 0)))),
  (64, (.c (.str [97, 123, 48, 125]))),
  (65, (.c (.ref (.ptr 83116 1)))),
  (66, (.c (.str []))),
  (67, (.c (.ref (.ptr 83116 2))))], CE.dropL [78505] s109.L ++ [], 87634, []⟩

def s111 : CE.Snap := ⟨CE.setE s110.es [], CE.dropL [] s110.L ++ [], 87634, []⟩

def s112 : CE.Snap := ⟨CE.setE s111.es [(59, (.c (.int .i64 (.ofNat 18)))),
  (71, (.c (.int .i64 (.ofNat 18))))], CE.dropL [] s111.L ++ [], 87634, []⟩

def s113 : CE.Snap := ⟨CE.setE s112.es [], CE.dropL [] s112.L ++ [], 87634, []⟩

def s114 : CE.Snap := ⟨CE.setE s113.es [], CE.dropL [] s113.L ++ [], 87634, []⟩

def s115 : CE.Snap := ⟨CE.setE s114.es [(2, (.c (.ref (.ptr 87634 0)))),
  (61, (.c (.ref (.ptr 5954 54)))),
  (62, (.agg [(.str [97, 123, 48, 44, 51, 125]), (.str [120]), (.bool .true)]))], CE.dropL [] s114.L ++ [(87634, (.row 23 3 3 .false 0 0 (CE.lt 0 [(.agg [(.str [97, 123, 48, 44, 51, 125]), (.str [120]), (.bool .true)])])))], 87635, []⟩

def s116 : CE.Snap := ⟨CE.setE s115.es [(63, (.c (.ref (.ptr 87634 0)))),
  (64, (.c (.str [97, 123, 48, 44, 51, 125]))),
  (65, (.c (.ref (.ptr 87634 1)))),
  (66, (.c (.str [120]))),
  (67, (.c (.ref (.ptr 87634 2))))], CE.dropL [83116] s115.L ++ [], 92154, []⟩

def s117 : CE.Snap := ⟨CE.setE s116.es [], CE.dropL [] s116.L ++ [], 92154, []⟩

def s118 : CE.Snap := ⟨CE.setE s117.es [(59, (.c (.int .i64 (.ofNat 19)))),
  (71, (.c (.int .i64 (.ofNat 19))))], CE.dropL [] s117.L ++ [], 92154, []⟩

def s119 : CE.Snap := ⟨CE.setE s118.es [], CE.dropL [] s118.L ++ [], 92154, []⟩

def s120 : CE.Snap := ⟨CE.setE s119.es [], CE.dropL [] s119.L ++ [], 92154, []⟩

def s121 : CE.Snap := ⟨CE.setE s120.es [(2, (.c (.ref (.ptr 92154 0)))),
  (61, (.c (.ref (.ptr 5954 57)))),
  (62, (.agg [(.str [97, 123, 50, 125]), (.str [120]), (.bool .false)]))], CE.dropL [] s120.L ++ [(92154, (.row 23 3 3 .false 0 0 (CE.lt 0 [(.agg [(.str [97, 123, 50, 125]), (.str [120]), (.bool .false)])])))], 92155, []⟩

def s122 : CE.Snap := ⟨CE.setE s121.es [(63, (.c (.ref (.ptr 92154 0)))),
  (64, (.c (.str [97, 123, 50, 125]))),
  (65, (.c (.ref (.ptr 92154 1)))),
  (67, (.c (.ref (.ptr 92154 2)))),
  (68, (.c (.bool .false)))], CE.dropL [87634] s121.L ++ [], 96674, []⟩

def s123 : CE.Snap := ⟨CE.setE s122.es [], CE.dropL [] s122.L ++ [], 96674, []⟩

def s124 : CE.Snap := ⟨CE.setE s123.es [(59, (.c (.int .i64 (.ofNat 20)))),
  (71, (.c (.int .i64 (.ofNat 20))))], CE.dropL [] s123.L ++ [], 96674, []⟩

def s125 : CE.Snap := ⟨CE.setE s124.es [], CE.dropL [] s124.L ++ [], 96674, []⟩

def s126 : CE.Snap := ⟨CE.setE s125.es [], CE.dropL [] s125.L ++ [], 96674, []⟩

def s127 : CE.Snap := ⟨CE.setE s126.es [(2, (.c (.ref (.ptr 96674 0)))),
  (61, (.c (.ref (.ptr 5954 60)))),
  (62, (.agg [(.str [100, 123, 50, 125]), (.str []), (.bool .true)]))], CE.dropL [] s126.L ++ [(96674, (.row 23 3 3 .false 0 0 (CE.lt 0 [(.agg [(.str [100, 123, 50, 125]), (.str []), (.bool .true)])])))], 96675, []⟩

def s128 : CE.Snap := ⟨CE.setE s127.es [(63, (.c (.ref (.ptr 96674 0)))),
  (64, (.c (.str [100, 123, 50, 125]))),
  (65, (.c (.ref (.ptr 96674 1)))),
  (66, (.c (.str []))),
  (67, (.c (.ref (.ptr 96674 2)))),
  (68, (.c (.bool .true)))], CE.dropL [92154] s127.L ++ [], 101198, []⟩

def s129 : CE.Snap := ⟨CE.setE s128.es [], CE.dropL [] s128.L ++ [], 101198, []⟩

def s130 : CE.Snap := ⟨CE.setE s129.es [(59, (.c (.int .i64 (.ofNat 21)))),
  (71, (.c (.int .i64 (.ofNat 21))))], CE.dropL [] s129.L ++ [], 101198, []⟩

def s131 : CE.Snap := ⟨CE.setE s130.es [], CE.dropL [] s130.L ++ [], 101198, []⟩

def s132 : CE.Snap := ⟨CE.setE s131.es [], CE.dropL [] s131.L ++ [], 101198, []⟩

def s133 : CE.Snap := ⟨CE.setE s132.es [(2, (.c (.ref (.ptr 101198 0)))),
  (61, (.c (.ref (.ptr 5954 63)))),
  (62, (.agg [(.str [102, 123, 50, 44, 52, 125, 32, 98]), (.str [113, 121]), (.bool .false)]))], CE.dropL [] s132.L ++ [(101198, (.row 23 3 3 .false 0 0 (CE.lt 0 [(.agg [(.str [102, 123, 50, 44, 52, 125, 32, 98]), (.str [113, 121]), (.bool .false)])])))], 101199, []⟩

def s134 : CE.Snap := ⟨CE.setE s133.es [(63, (.c (.ref (.ptr 101198 0)))),
  (64, (.c (.str [102, 123, 50, 44, 52, 125, 32, 98]))),
  (65, (.c (.ref (.ptr 101198 1)))),
  (66, (.c (.str [113, 121]))),
  (67, (.c (.ref (.ptr 101198 2)))),
  (68, (.c (.bool .false)))], CE.dropL [96674] s133.L ++ [], 105908, []⟩

def s135 : CE.Snap := ⟨CE.setE s134.es [], CE.dropL [] s134.L ++ [], 105908, []⟩

def s136 : CE.Snap := ⟨CE.setE s135.es [(59, (.c (.int .i64 (.ofNat 22)))),
  (71, (.c (.int .i64 (.ofNat 22))))], CE.dropL [] s135.L ++ [], 105908, []⟩

def s137 : CE.Snap := ⟨CE.setE s136.es [], CE.dropL [] s136.L ++ [], 105908, []⟩

def s138 : CE.Snap := ⟨CE.setE s137.es [], CE.dropL [] s137.L ++ [], 105908, []⟩

def s139 : CE.Snap := ⟨CE.setE s138.es [(2, (.c (.ref (.ptr 105908 0)))),
  (61, (.c (.ref (.ptr 5954 66)))),
  (62, (.agg [(.str [97, 43, 32, 98]), (.str [120]), (.bool .false)]))], CE.dropL [] s138.L ++ [(105908, (.row 23 3 3 .false 0 0 (CE.lt 0 [(.agg [(.str [97, 43, 32, 98]), (.str [120]), (.bool .false)])])))], 105909, []⟩

def s140 : CE.Snap := ⟨CE.setE s139.es [(63, (.c (.ref (.ptr 105908 0)))),
  (64, (.c (.str [97, 43, 32, 98]))),
  (65, (.c (.ref (.ptr 105908 1)))),
  (66, (.c (.str [120]))),
  (67, (.c (.ref (.ptr 105908 2))))], CE.dropL [101198] s139.L ++ [], 110602, []⟩

def s141 : CE.Snap := ⟨CE.setE s140.es [], CE.dropL [] s140.L ++ [], 110602, []⟩

def s142 : CE.Snap := ⟨CE.setE s141.es [(59, (.c (.int .i64 (.ofNat 23)))),
  (71, (.c (.int .i64 (.ofNat 23))))], CE.dropL [] s141.L ++ [], 110602, []⟩

def s143 : CE.Snap := ⟨CE.setE s142.es [], CE.dropL [] s142.L ++ [], 110602, []⟩

def s144 : CE.Snap := ⟨CE.setE s143.es [], CE.dropL [] s143.L ++ [], 110602, []⟩

def s145 : CE.Snap := ⟨CE.setE s144.es [(2, (.c (.ref (.ptr 110602 0)))),
  (61, (.c (.ref (.ptr 5954 69)))),
  (62, (.agg [(.str [38, 97]), (.str []), (.bool .true)]))], CE.dropL [] s144.L ++ [(110602, (.row 23 3 3 .false 0 0 (CE.lt 0 [(.agg [(.str [38, 97]), (.str []), (.bool .true)])])))], 110603, []⟩

def s146 : CE.Snap := ⟨CE.setE s145.es [(63, (.c (.ref (.ptr 110602 0)))),
  (64, (.c (.str [38, 97]))),
  (65, (.c (.ref (.ptr 110602 1)))),
  (66, (.c (.str []))),
  (67, (.c (.ref (.ptr 110602 2)))),
  (68, (.c (.bool .true)))], CE.dropL [105908] s145.L ++ [], 115116, []⟩

def s147 : CE.Snap := ⟨CE.setE s146.es [], CE.dropL [] s146.L ++ [], 115116, []⟩

def s148 : CE.Snap := ⟨CE.setE s147.es [(59, (.c (.int .i64 (.ofNat 24)))),
  (71, (.c (.int .i64 (.ofNat 24))))], CE.dropL [] s147.L ++ [], 115116, []⟩

def s149 : CE.Snap := ⟨CE.setE s148.es [], CE.dropL [] s148.L ++ [], 115116, []⟩

def s150 : CE.Snap := ⟨CE.setE s149.es [], CE.dropL [] s149.L ++ [], 115116, []⟩

def s151 : CE.Snap := ⟨CE.setE s150.es [(2, (.c (.ref (.ptr 115116 0)))),
  (61, (.c (.ref (.ptr 5954 72)))),
  (62, (.agg [(.str [38, 100]), (.str []), (.bool .true)]))], CE.dropL [] s150.L ++ [(115116, (.row 23 3 3 .false 0 0 (CE.lt 0 [(.agg [(.str [38, 100]), (.str []), (.bool .true)])])))], 115117, []⟩

def s152 : CE.Snap := ⟨CE.setE s151.es [(63, (.c (.ref (.ptr 115116 0)))),
  (64, (.c (.str [38, 100]))),
  (65, (.c (.ref (.ptr 115116 1)))),
  (67, (.c (.ref (.ptr 115116 2))))], CE.dropL [110602] s151.L ++ [], 119636, []⟩

def s153 : CE.Snap := ⟨CE.setE s152.es [], CE.dropL [] s152.L ++ [], 119636, []⟩

def s154 : CE.Snap := ⟨CE.setE s153.es [(59, (.c (.int .i64 (.ofNat 25)))),
  (71, (.c (.int .i64 (.ofNat 25))))], CE.dropL [] s153.L ++ [], 119636, []⟩

def s155 : CE.Snap := ⟨CE.setE s154.es [], CE.dropL [] s154.L ++ [], 119636, []⟩

def s156 : CE.Snap := ⟨CE.setE s155.es [], CE.dropL [] s155.L ++ [], 119636, []⟩

def s157 : CE.Snap := ⟨CE.setE s156.es [(2, (.c (.ref (.ptr 119636 0)))),
  (61, (.c (.ref (.ptr 5954 75)))),
  (62, (.agg [(.str [38, 91, 93]), (.str []), (.bool .false)]))], CE.dropL [] s156.L ++ [(119636, (.row 23 3 3 .false 0 0 (CE.lt 0 [(.agg [(.str [38, 91, 93]), (.str []), (.bool .false)])])))], 119637, []⟩

def s158 : CE.Snap := ⟨CE.setE s157.es [(63, (.c (.ref (.ptr 119636 0)))),
  (64, (.c (.str [38, 91, 93]))),
  (65, (.c (.ref (.ptr 119636 1)))),
  (67, (.c (.ref (.ptr 119636 2)))),
  (68, (.c (.bool .false)))], CE.dropL [115116] s157.L ++ [], 124159, []⟩

def s159 : CE.Snap := ⟨CE.setE s158.es [], CE.dropL [] s158.L ++ [], 124159, []⟩

def s160 : CE.Snap := ⟨CE.setE s159.es [(59, (.c (.int .i64 (.ofNat 26)))),
  (71, (.c (.int .i64 (.ofNat 26))))], CE.dropL [] s159.L ++ [], 124159, []⟩

def s161 : CE.Snap := ⟨CE.setE s160.es [], CE.dropL [] s160.L ++ [], 124159, []⟩

def s162 : CE.Snap := ⟨CE.setE s161.es [], CE.dropL [] s161.L ++ [], 124159, []⟩

def s163 : CE.Snap := ⟨CE.setE s162.es [(2, (.c (.ref (.ptr 124159 0)))),
  (61, (.c (.ref (.ptr 5954 78)))),
  (62, (.agg [(.str [33, 97]), (.str []), (.bool .false)]))], CE.dropL [] s162.L ++ [(124159, (.row 23 3 3 .false 0 0 (CE.lt 0 [(.agg [(.str [33, 97]), (.str []), (.bool .false)])])))], 124160, []⟩

def s164 : CE.Snap := ⟨CE.setE s163.es [(63, (.c (.ref (.ptr 124159 0)))),
  (64, (.c (.str [33, 97]))),
  (65, (.c (.ref (.ptr 124159 1)))),
  (67, (.c (.ref (.ptr 124159 2))))], CE.dropL [119636] s163.L ++ [], 128673, []⟩

def s165 : CE.Snap := ⟨CE.setE s164.es [], CE.dropL [] s164.L ++ [], 128673, []⟩

def s166 : CE.Snap := ⟨CE.setE s165.es [(59, (.c (.int .i64 (.ofNat 27)))),
  (71, (.c (.int .i64 (.ofNat 27))))], CE.dropL [] s165.L ++ [], 128673, []⟩

def s167 : CE.Snap := ⟨CE.setE s166.es [], CE.dropL [] s166.L ++ [], 128673, []⟩

def s168 : CE.Snap := ⟨CE.setE s167.es [], CE.dropL [] s167.L ++ [], 128673, []⟩

def s169 : CE.Snap := ⟨CE.setE s168.es [(2, (.c (.ref (.ptr 128673 0)))),
  (61, (.c (.ref (.ptr 5954 81)))),
  (62, (.agg [(.str [33, 34, 120, 34]), (.str []), (.bool .true)]))], CE.dropL [] s168.L ++ [(128673, (.row 23 3 3 .false 0 0 (CE.lt 0 [(.agg [(.str [33, 34, 120, 34]), (.str []), (.bool .true)])])))], 128674, []⟩

def s170 : CE.Snap := ⟨CE.setE s169.es [(63, (.c (.ref (.ptr 128673 0)))),
  (64, (.c (.str [33, 34, 120, 34]))),
  (65, (.c (.ref (.ptr 128673 1)))),
  (67, (.c (.ref (.ptr 128673 2)))),
  (68, (.c (.bool .true)))], CE.dropL [124159] s169.L ++ [], 133198, []⟩

def s171 : CE.Snap := ⟨CE.setE s170.es [], CE.dropL [] s170.L ++ [], 133198, []⟩

def s172 : CE.Snap := ⟨CE.setE s171.es [(59, (.c (.int .i64 (.ofNat 28)))),
  (71, (.c (.int .i64 (.ofNat 28))))], CE.dropL [] s171.L ++ [], 133198, []⟩

def s173 : CE.Snap := ⟨CE.setE s172.es [], CE.dropL [] s172.L ++ [], 133198, []⟩

def s174 : CE.Snap := ⟨CE.setE s173.es [], CE.dropL [] s173.L ++ [], 133198, []⟩

def s175 : CE.Snap := ⟨CE.setE s174.es [(2, (.c (.ref (.ptr 133198 0)))),
  (61, (.c (.ref (.ptr 5954 84)))),
  (62, (.agg [(.str [33, 100]), (.str []), (.bool .false)]))], CE.dropL [] s174.L ++ [(133198, (.row 23 3 3 .false 0 0 (CE.lt 0 [(.agg [(.str [33, 100]), (.str []), (.bool .false)])])))], 133199, []⟩

def s176 : CE.Snap := ⟨CE.setE s175.es [(63, (.c (.ref (.ptr 133198 0)))),
  (64, (.c (.str [33, 100]))),
  (65, (.c (.ref (.ptr 133198 1)))),
  (67, (.c (.ref (.ptr 133198 2)))),
  (68, (.c (.bool .false)))], CE.dropL [128673] s175.L ++ [], 137718, []⟩

def s177 : CE.Snap := ⟨CE.setE s176.es [], CE.dropL [] s176.L ++ [], 137718, []⟩

def s178 : CE.Snap := ⟨CE.setE s177.es [(59, (.c (.int .i64 (.ofNat 29)))),
  (71, (.c (.int .i64 (.ofNat 29))))], CE.dropL [] s177.L ++ [], 137718, []⟩

def s179 : CE.Snap := ⟨CE.setE s178.es [], CE.dropL [] s178.L ++ [], 137718, []⟩

def s180 : CE.Snap := ⟨CE.setE s179.es [], CE.dropL [] s179.L ++ [], 137718, []⟩

def s181 : CE.Snap := ⟨CE.setE s180.es [(2, (.c (.ref (.ptr 137718 0)))),
  (61, (.c (.ref (.ptr 5954 87)))),
  (62, (.agg [(.str [33, 91, 93]), (.str []), (.bool .true)]))], CE.dropL [] s180.L ++ [(137718, (.row 23 3 3 .false 0 0 (CE.lt 0 [(.agg [(.str [33, 91, 93]), (.str []), (.bool .true)])])))], 137719, []⟩

def s182 : CE.Snap := ⟨CE.setE s181.es [(63, (.c (.ref (.ptr 137718 0)))),
  (64, (.c (.str [33, 91, 93]))),
  (65, (.c (.ref (.ptr 137718 1)))),
  (67, (.c (.ref (.ptr 137718 2)))),
  (68, (.c (.bool .true)))], CE.dropL [133198] s181.L ++ [], 142241, []⟩

def s183 : CE.Snap := ⟨CE.setE s182.es [], CE.dropL [] s182.L ++ [], 142241, []⟩

def s184 : CE.Snap := ⟨CE.setE s183.es [(59, (.c (.int .i64 (.ofNat 30)))),
  (71, (.c (.int .i64 (.ofNat 30))))], CE.dropL [] s183.L ++ [], 142241, []⟩

def s185 : CE.Snap := ⟨CE.setE s184.es [], CE.dropL [] s184.L ++ [], 142241, []⟩

def s186 : CE.Snap := ⟨CE.setE s185.es [], CE.dropL [] s185.L ++ [], 142241, []⟩

def s187 : CE.Snap := ⟨CE.setE s186.es [(2, (.c (.ref (.ptr 142241 0)))),
  (61, (.c (.ref (.ptr 5954 90)))),
  (62, (.agg [(.str [33, 100, 32, 97]), (.str []), (.bool .false)]))], CE.dropL [] s186.L ++ [(142241, (.row 23 3 3 .false 0 0 (CE.lt 0 [(.agg [(.str [33, 100, 32, 97]), (.str []), (.bool .false)])])))], 142242, []⟩

def s188 : CE.Snap := ⟨CE.setE s187.es [(63, (.c (.ref (.ptr 142241 0)))),
  (64, (.c (.str [33, 100, 32, 97]))),
  (65, (.c (.ref (.ptr 142241 1)))),
  (67, (.c (.ref (.ptr 142241 2)))),
  (68, (.c (.bool .false)))], CE.dropL [137718] s187.L ++ [], 146932, []⟩

def s189 : CE.Snap := ⟨CE.setE s188.es [], CE.dropL [] s188.L ++ [], 146932, []⟩

def s190 : CE.Snap := ⟨CE.setE s189.es [(59, (.c (.int .i64 (.ofNat 31)))),
  (71, (.c (.int .i64 (.ofNat 31))))], CE.dropL [] s189.L ++ [], 146932, []⟩

def s191 : CE.Snap := ⟨CE.setE s190.es [], CE.dropL [] s190.L ++ [], 146932, []⟩

def s192 : CE.Snap := ⟨CE.setE s191.es [], CE.dropL [] s191.L ++ [], 146932, []⟩

def s193 : CE.Snap := ⟨CE.setE s192.es [(2, (.c (.ref (.ptr 146932 0)))),
  (61, (.c (.ref (.ptr 5954 93)))),
  (62, (.agg [(.str [38, 97, 32, 98]), (.str [121]), (.bool .false)]))], CE.dropL [] s192.L ++ [(146932, (.row 23 3 3 .false 0 0 (CE.lt 0 [(.agg [(.str [38, 97, 32, 98]), (.str [121]), (.bool .false)])])))], 146933, []⟩

def s194 : CE.Snap := ⟨CE.setE s193.es [(63, (.c (.ref (.ptr 146932 0)))),
  (64, (.c (.str [38, 97, 32, 98]))),
  (65, (.c (.ref (.ptr 146932 1)))),
  (66, (.c (.str [121]))),
  (67, (.c (.ref (.ptr 146932 2))))], CE.dropL [142241] s193.L ++ [], 151625, []⟩

def s195 : CE.Snap := ⟨CE.setE s194.es [], CE.dropL [] s194.L ++ [], 151625, []⟩

def s196 : CE.Snap := ⟨CE.setE s195.es [(59, (.c (.int .i64 (.ofNat 32)))),
  (71, (.c (.int .i64 (.ofNat 32))))], CE.dropL [] s195.L ++ [], 151625, []⟩

def s197 : CE.Snap := ⟨CE.setE s196.es [], CE.dropL [] s196.L ++ [], 151625, []⟩

def s198 : CE.Snap := ⟨CE.setE s197.es [], CE.dropL [] s197.L ++ [], 151625, []⟩

def s199 : CE.Snap := ⟨CE.setE s198.es [(2, (.c (.ref (.ptr 151625 0)))),
  (61, (.c (.ref (.ptr 5954 96)))),
  (62, (.agg [(.str [60, 110, 58, 32, 102, 62, 32, 97]), (.str [113, 120]), (.bool .false)]))], CE.dropL [] s198.L ++ [(151625, (.row 23 3 3 .false 0 0 (CE.lt 0 [(.agg [(.str [60, 110, 58, 32, 102, 62, 32, 97]), (.str [113, 120]), (.bool .false)])])))], 151626, []⟩

def s200 : CE.Snap := ⟨CE.setE s199.es [(63, (.c (.ref (.ptr 151625 0)))),
  (64, (.c (.str [60, 110, 58, 32, 102, 62, 32, 97]))),
  (65, (.c (.ref (.ptr 151625 1)))),
  (66, (.c (.str [113, 120]))),
  (67, (.c (.ref (.ptr 151625 2))))], CE.dropL [146932] s199.L ++ [], 156367, []⟩

def s201 : CE.Snap := ⟨CE.setE s200.es [], CE.dropL [] s200.L ++ [], 156367, []⟩

def s202 : CE.Snap := ⟨CE.setE s201.es [(59, (.c (.int .i64 (.ofNat 33)))),
  (71, (.c (.int .i64 (.ofNat 33))))], CE.dropL [] s201.L ++ [], 156367, []⟩

def s203 : CE.Snap := ⟨CE.setE s202.es [], CE.dropL [] s202.L ++ [], 156367, []⟩

def s204 : CE.Snap := ⟨CE.setE s203.es [], CE.dropL [] s203.L ++ [], 156367, []⟩

def s205 : CE.Snap := ⟨CE.setE s204.es [(2, (.c (.ref (.ptr 156367 0)))),
  (61, (.c (.ref (.ptr 5954 99)))),
  (62, (.agg [(.str [38, 99, 32, 97]), (.str []), (.bool .false)]))], CE.dropL [] s204.L ++ [(156367, (.row 23 3 3 .false 0 0 (CE.lt 0 [(.agg [(.str [38, 99, 32, 97]), (.str []), (.bool .false)])])))], 156368, []⟩

def s206 : CE.Snap := ⟨CE.setE s205.es [(63, (.c (.ref (.ptr 156367 0)))),
  (64, (.c (.str [38, 99, 32, 97]))),
  (65, (.c (.ref (.ptr 156367 1)))),
  (66, (.c (.str []))),
  (67, (.c (.ref (.ptr 156367 2))))], CE.dropL [151625] s205.L ++ [], 161057, []⟩

def s207 : CE.Snap := ⟨CE.setE s206.es [], CE.dropL [] s206.L ++ [], 161057, []⟩

def s208 : CE.Snap := ⟨CE.setE s207.es [(59, (.c (.int .i64 (.ofNat 34)))),
  (71, (.c (.int .i64 (.ofNat 34))))], CE.dropL [] s207.L ++ [], 161057, []⟩

def s209 : CE.Snap := ⟨CE.setE s208.es [], CE.dropL [] s208.L ++ [], 161057, []⟩

def s210 : CE.Snap := ⟨CE.setE s209.es [], CE.dropL [] s209.L ++ [], 161057, []⟩

def s211 : CE.Snap := ⟨CE.setE s210.es [(2, (.c (.ref (.ptr 161057 0)))),
  (61, (.c (.ref (.ptr 5954 102)))),
  (62, (.agg [(.str [34, 112, 113, 34, 32, 47, 32, 91, 111, 45, 114, 93]), (.str [111, 112, 113, 114]), (.bool .false)]))], CE.dropL [] s210.L ++ [(161057, (.row 23 3 3 .false 0 0 (CE.lt 0 [(.agg [(.str [34, 112, 113, 34, 32, 47, 32, 91, 111, 45, 114, 93]), (.str [111, 112, 113, 114]), (.bool .false)])])))], 161058, []⟩

def s212 : CE.Snap := ⟨CE.setE s211.es [(63, (.c (.ref (.ptr 161057 0)))),
  (64, (.c (.str [34, 112, 113, 34, 32, 47, 32, 91, 111, 45, 114, 93]))),
  (65, (.c (.ref (.ptr 161057 1)))),
  (66, (.c (.str [111, 112, 113, 114]))),
  (67, (.c (.ref (.ptr 161057 2))))], CE.dropL [156367] s211.L ++ [], 165703, []⟩

def s213 : CE.Snap := ⟨CE.setE s212.es [], CE.dropL [] s212.L ++ [], 165703, []⟩

def s214 : CE.Snap := ⟨CE.setE s213.es [(59, (.c (.int .i64 (.ofNat 35)))),
  (71, (.c (.int .i64 (.ofNat 35))))], CE.dropL [] s213.L ++ [], 165703, []⟩

def s215 : CE.Snap := ⟨CE.setE s214.es [(60, (.c (.bool .false)))], CE.dropL [] s214.L ++ [], 165703, []⟩

def s216 : CE.Snap := ⟨[(.c (.bool .true)), .top, .top, .top, .top, .top, .top, .top, .top, (.c (.bool .false)), .top, (.c (.bool .false)), .top, (.c (.bool .false)), .top, (.c (.bool .false)), .top, (.c (.bool .false)), .top, (.c (.bool .true)), (.c (.bool .true)), (.c (.bool .false)), .top, .top, .top, .top, .top, .top, .top, .top, .top, .top, .top, .top, .top, .top, .top, .top, .top, .top, .top, .top, .top, .top, .top, .top, .top, .top, .top, .top, .top, .top, .top, .top, .top, .top, .top, .top, .top, .top, (.c (.bool .false)), .top, .top, .top, .top, .top, .top, .top, (.c (.bool .false)), (.c (.bool .true)), (.c (.bool .false)), .top, .top, .top, .top, .top, .top, .top, .top, .top, .top, .top, .top, .top, .top, .top, .top, (.c (.bool .false)), .top, .top, .top, .top, .top, (.c (.bool .false)), .top, .top, .top, .top, .top, .top, (.c (.bool .false)), .top, .top, .top, .top, .top, .top, (.c (.bool .false)), .top, .top, .top, .top, .top, .top, (.c (.bool .false)), .top, .top, .top, .top, .top, .top, .top, (.c (.bool .true)), .top, .top, (.c (.bool .true)), (.c (.bool .true)), .top, (.c (.bool .true)), (.c (.bool .true)), (.c (.bool .true)), (.c (.bool .false)), (.c (.bool .true)), (.c (.bool .true)), (.c (.bool .true)), (.c (.bool .false)), (.c (.bool .true)), (.c (.bool .true)), (.c (.bool .true)), (.c (.bool .false)), (.c (.bool .true)), (.c (.bool .true)), (.c (.bool .true)), (.c (.bool .false)), (.c (.bool .true)), (.c (.bool .true)), (.c (.bool .true)), (.c (.bool .false)), (.c (.bool .true)), (.c (.bool .true)), (.c (.bool .true)), (.c (.bool .true)), (.c (.bool .true)), (.c (.bool .true)), .top, .top, (.c (.bool .true)), (.c (.bool .true)), (.c (.bool .true)), .top, .top, .top, (.c (.bool .true)), (.c (.bool .true)), (.c (.bool .true)), .top, .top, .top, .top, .top, (.c (.bool .true)), (.c (.bool .true))], gl ++ [], 166279, []⟩


end

end Go.Proofs.YtnbfpalcaibcfaaGreatDoor.firstNames
