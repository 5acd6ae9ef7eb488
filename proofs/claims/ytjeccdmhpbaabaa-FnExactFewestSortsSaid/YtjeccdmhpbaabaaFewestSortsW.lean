/-
  The walk of the law FnExactFewestSorts. Conditions stand at each.
-/
import Derived.Test.YtjeccdmhpbaabaaRows
import Derived.Test.YtjeccdmhpbaabaaNums
import Derived.Test.YtjeccdmhpbaabaaSetts
import Derived.Test.YtjeccdmhpbaabaaFewestSortsB
import Derived.Deep.RegionHeld3
import Derived.Lib.SmallJoins
namespace Go.Proofs.Ytjeccdmhpbaabaa.fewestSorts
open Go Go.ChangeShapes Go.WideShapes Go.ChangeAt Go.RowKit
set_option linter.unusedVariables false
set_option linter.unusedSimpArgs false
set_option maxRecDepth 100000
set_option maxHeartbeats 2000000

theorem law (A0 : Option Addr) (n0 ca0 : Nat) (c0 d0 : Nat → Int) (A1 : Option Addr) (n1 ca1 : Nat) (c1 : Nat → Int) (k2 : Int) (z1 : Int) (z2 : Int) (w : World) (hn0 : n0 ≤ 1048576) (hn1 : n1 ≤ 1048576)
    (hr0 : RdS w w.heap.size A0 n0 c0 d0) (hr1 : RdK .i64 w w.heap.size A1 n1 c1)
    (hS : ∀ (W : World) (G0 G1 : Nat), w.heap.size ≤ W.heap.size → As W G0 n0 c0 d0 → Ar W G1 n1 c1 → 
      Calls Try.prog 66 #[.slice (some ⟨G0, 0, none⟩) n0 n0, .slice (some ⟨G1, 0, none⟩) n1 n1, .int .i64 k2] W fun e w' => e = .returned (.tuple #[.int .i64 z1, .int .i64 z2]) ∧ Below W.heap.size W w')
    (hI : ∀ (W : World) (G0 G1 : Nat), w.heap.size ≤ W.heap.size → As W G0 n0 c0 d0 → Ar W G1 n1 c1 → 
      Calls Try.prog 67 #[.slice (some ⟨G0, 0, none⟩) n0 n0, .slice (some ⟨G1, 0, none⟩) n1 n1, .int .i64 k2] W fun e w' => e = .returned (.tuple #[.int .i64 z1, .int .i64 z2]) ∧ Below W.heap.size W w') :
    Calls Try.prog 18 #[.slice A0 n0 ca0, .slice A1 n1 ca1, .int .i64 k2] w fun e w' => e = .returned (.bool true) ∧ Below w.heap.size w w' := by
  have HS := Lib.hid hS
  have HI := Lib.hid hI
  have HR0 := Lib.hid hr0
  have HR1 := Lib.hid hr1
  have hz0 : 0 ≤ 1048576 - (n0 : Int) := by omega
  have hy0 : 0 ≤ 1 + 2 * (n0 : Int) := by omega
  have hz1 : 0 ≤ 1048576 - (n1 : Int) := by omega
  have hy1 : 0 ≤ 1 + (n1 : Int) := by omega
  have B : Below w.heap.size w w := Below.refl _ _
  clear hS hI hr0 hr1
  go_enter Try.func18, Try.ntmps18
  have hrrz1 : (z1 != z1) = false := by simp
  have hrrz2 : (z2 != z2) = false := by simp
  go_wp2_with fail
  refine (szSettS_ok A0 n0 ca0 1048576 _ (by omega) (by omega) (by omega)).mono ?_
  rintro e w1 ⟨rfl, rfl⟩
  go_wp2_with fail
  refine (toSettS_any A0 n0 ca0 w.heap.size c0 d0 _ (by omega) B.size (HR0.out.below B)).mono ?_
  rintro e w2 ⟨ga0, rfl, hg, hb, Xa0⟩
  have bzga0 : w.heap.size ≤ ga0 := Nat.le_trans B.size hg
  replace B := nxt B hb
  clear hb
  clear hg
  go_wp2_with fail
  refine (toInt64S_any A1 n1 ca1 w.heap.size c1 _ (by omega) B.size (HR1.out.below B)).mono ?_
  rintro e w3 ⟨ga1, rfl, hg, hb, Xa1⟩
  have qga0ga1 : ga0 < ga1 := Nat.lt_of_lt_of_le Xa0.1 hg
  have bzga1 : w.heap.size ≤ ga1 := Nat.le_trans B.size hg
  replace Xa0 := Xa0.below hb
  replace B := nxt B hb
  clear hb
  clear hg
  go_wp2_with fail
  refine (HS.out _ ga0 ga1 B.size Xa0 Xa1).mono ?_
  rintro e w4 ⟨rfl, hb⟩
  replace Xa0 := Xa0.below hb
  replace Xa1 := Xa1.below hb
  replace B := nxt B hb
  clear hb
  clear Xa0
  clear Xa1
  go_wp2_with fail
  refine (toSettS_any A0 n0 ca0 w.heap.size c0 d0 _ (by omega) B.size (HR0.out.below B)).mono ?_
  rintro e w5 ⟨gb0, rfl, hg, hb, Xb0⟩
  have bzgb0 : w.heap.size ≤ gb0 := Nat.le_trans B.size hg
  replace B := nxt B hb
  clear hb
  clear hg
  go_wp2_with fail
  refine (toInt64S_any A1 n1 ca1 w.heap.size c1 _ (by omega) B.size (HR1.out.below B)).mono ?_
  rintro e w6 ⟨gb1, rfl, hg, hb, Xb1⟩
  have qgb0gb1 : gb0 < gb1 := Nat.lt_of_lt_of_le Xb0.1 hg
  have bzgb1 : w.heap.size ≤ gb1 := Nat.le_trans B.size hg
  replace Xb0 := Xb0.below hb
  replace B := nxt B hb
  clear hb
  clear hg
  go_wp2_with fail
  refine (HI.out _ gb0 gb1 B.size Xb0 Xb1).mono ?_
  rintro e w7 ⟨rfl, hb⟩
  replace Xb0 := Xb0.below hb
  replace Xb1 := Xb1.below hb
  replace B := nxt B hb
  clear hb
  go_wp2_with fail
  refine (toSettS_any A0 n0 ca0 w.heap.size c0 d0 _ (by omega) B.size (HR0.out.below B)).mono ?_
  rintro e w8 ⟨gc0, rfl, hg, hb, Xc0⟩
  have qgb0gc0 : gb0 < gc0 := Nat.lt_of_lt_of_le Xb0.1 hg
  have qgb1gc0 : gb1 < gc0 := Nat.lt_of_lt_of_le Xb1.1 hg
  have bzgc0 : w.heap.size ≤ gc0 := Nat.le_trans B.size hg
  replace Xb0 := Xb0.below hb
  replace Xb1 := Xb1.below hb
  replace B := nxt B hb
  clear hb
  clear hg
  go_wp2_with fail
  refine (eqSettS_any (some ⟨gb0, 0, none⟩) (some ⟨gc0, 0, none⟩) n0 n0 n0 n0 _ c0 d0 c0 d0 _ (by omega) (by omega) (Nat.le_refl _) Xb0.rd Xc0.rd ⟨rfl, fun _ _ => ⟨rfl, rfl⟩⟩).mono ?_
  rintro e w9 ⟨rfl, hb⟩
  replace Xb0 := Xb0.below hb
  replace Xb1 := Xb1.below hb
  replace Xc0 := Xc0.below hb
  replace B := nxt B hb
  clear hb
  clear Xc0
  go_wp2_with fail
  refine (toInt64S_any A1 n1 ca1 w.heap.size c1 _ (by omega) B.size (HR1.out.below B)).mono ?_
  rintro e w10 ⟨gc1, rfl, hg, hb, Xc1⟩
  have qgb0gc1 : gb0 < gc1 := Nat.lt_of_lt_of_le Xb0.1 hg
  have qgb1gc1 : gb1 < gc1 := Nat.lt_of_lt_of_le Xb1.1 hg
  have bzgc1 : w.heap.size ≤ gc1 := Nat.le_trans B.size hg
  replace Xb0 := Xb0.below hb
  replace Xb1 := Xb1.below hb
  replace B := nxt B hb
  clear hb
  clear hg
  go_wp2_with fail
  refine (eqInt64S_any (some ⟨gb1, 0, none⟩) (some ⟨gc1, 0, none⟩) n1 n1 n1 n1 _ c1 c1 _ (by omega) (by omega) (Nat.le_refl _) Xb1.rd Xc1.rd ⟨rfl, fun _ _ => rfl⟩).mono ?_
  rintro e w11 ⟨rfl, hb⟩
  replace Xb0 := Xb0.below hb
  replace Xb1 := Xb1.below hb
  replace Xc1 := Xc1.below hb
  replace B := nxt B hb
  clear hb
  clear Xc1
  go_wp2_with fail
  go_ret
  exact ⟨rfl, B⟩

theorem big1 (A0 : Option Addr) (n0 ca0 : Nat) (c0 d0 : Nat → Int) (A1 : Option Addr) (n1 ca1 : Nat) (c1 : Nat → Int) (k2 : Int) (w : World)  (hn : 1048576 < n1) (hm : n1 ≤ 9223372036854775807) :
    Calls Try.prog 18 #[.slice A0 n0 ca0, .slice A1 n1 ca1, .int .i64 k2] w fun e w' => e = .returned (.bool true) ∧ Below w.heap.size w w' := by
  go_enter Try.func18, Try.ntmps18
  go_wp2_with fail
  go_ret
  exact ⟨rfl, Below.refl _ _⟩

theorem big0 (A0 : Option Addr) (n0 ca0 : Nat) (c0 d0 : Nat → Int) (A1 : Option Addr) (n1 ca1 : Nat) (c1 : Nat → Int) (k2 : Int) (w : World) (hn1 : n1 ≤ 1048576) (hn : 1048576 < n0) (hm : n0 ≤ 9223372036854775807) :
    Calls Try.prog 18 #[.slice A0 n0 ca0, .slice A1 n1 ca1, .int .i64 k2] w fun e w' => e = .returned (.bool true) ∧ Below w.heap.size w w' := by
  go_enter Try.func18, Try.ntmps18
  go_wp2_with fail
  refine (szSettS_big A0 n0 ca0 1048576 _ (by omega) (by omega) (by omega) hm).mono ?_
  rintro e w1 ⟨rfl, rfl⟩
  go_wp2_with fail
  go_ret
  exact ⟨rfl, Below.refl _ _⟩

theorem walk (A0 : Option Addr) (n0 ca0 : Nat) (c0 d0 : Nat → Int) (A1 : Option Addr) (n1 ca1 : Nat) (c1 : Nat → Int) (k2 : Int) (w : World) (hm0 : n0 ≤ 9223372036854775807) (hc0 : ∀ j, -128 ≤ c0 j ∧ c0 j ≤ 127) (hd0 : ∀ j, -32768 ≤ d0 j ∧ d0 j ≤ 32767) (hm1 : n1 ≤ 9223372036854775807) (hc1 : ∀ j, (Lit.int .i64 (c1 j)).wf = true) (bk2 : (Lit.int .i64 k2).wf = true)
    (hr0 : RdS w w.heap.size A0 n0 c0 d0) (hr1 : RdK .i64 w w.heap.size A1 n1 c1) :
    Calls Try.prog 18 #[.slice A0 n0 ca0, .slice A1 n1 ca1, .int .i64 k2] w fun e w' => e = .returned (.bool true) ∧ Below w.heap.size w w' := by
  by_cases hn1 : 1048576 < n1
  · exact big1 A0 n0 ca0 c0 d0 A1 n1 ca1 c1 k2 w  hn1 hm1
  by_cases hn0 : 1048576 < n0
  · exact big0 A0 n0 ca0 c0 d0 A1 n1 ca1 c1 k2 w (by omega) hn0 hm0
  obtain ⟨z1, z2, hS, hI⟩ := both n0 c0 d0 n1 c1 k2 hc0 hd0 (by omega) hc1 (by omega) bk2
  exact law A0 n0 ca0 c0 d0 A1 n1 ca1 c1 k2 z1 z2 w (by omega) (by omega) hr0 hr1 (fun W G0 G1 _ R0 R1 => hS W G0 G1 R0 R1) (fun W G0 G1 _ R0 R1 => hI W G0 G1 R0 R1)

end Go.Proofs.Ytjeccdmhpbaabaa.fewestSorts
