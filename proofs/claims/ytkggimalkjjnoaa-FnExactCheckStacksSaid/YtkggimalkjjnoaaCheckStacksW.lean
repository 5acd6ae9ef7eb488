/-
  The walk of the law FnExactCheckStacks. Conditions stand at each.
-/
import Derived.Test.YtkggimalkjjnoaaRows
import Derived.Test.YtkggimalkjjnoaaNums
import Derived.Test.YtkggimalkjjnoaaCheckStacksB
import Derived.Deep.RegionHeld3
import Derived.Lib.SmallJoins
namespace Go.Proofs.Ytkggimalkjjnoaa.checkStacks
open Go Go.ChangeShapes Go.WideShapes Go.ChangeAt Go.RowKit
set_option linter.unusedVariables false
set_option linter.unusedSimpArgs false
set_option maxRecDepth 100000
set_option maxHeartbeats 2000000

theorem law (A0 : Option Addr) (n0 ca0 : Nat) (c0 : Nat → Int) (A1 : Option Addr) (n1 ca1 : Nat) (c1 : Nat → Int) (A2 : Option Addr) (n2 ca2 : Nat) (c2 : Nat → Int) (z1 : Bool) (z2 : Int) (w : World) (hn0 : n0 ≤ 1048576) (hn1 : n1 ≤ 1048576) (hn2 : n2 ≤ 1048576)
    (hr0 : RdK .i64 w w.heap.size A0 n0 c0) (hr1 : RdK .i64 w w.heap.size A1 n1 c1) (hr2 : RdK .i64 w w.heap.size A2 n2 c2)
    (hS : ∀ (W : World) (G0 G1 G2 : Nat), w.heap.size ≤ W.heap.size → Ar W G0 n0 c0 → Ar W G1 n1 c1 → Ar W G2 n2 c2 → 
      Calls Try.prog 58 #[.slice (some ⟨G0, 0, none⟩) n0 n0, .slice (some ⟨G1, 0, none⟩) n1 n1, .slice (some ⟨G2, 0, none⟩) n2 n2] W fun e w' => e = .returned (.tuple #[.bool z1, .int .i64 z2]) ∧ Below W.heap.size W w')
    (hI : ∀ (W : World) (G0 G1 G2 : Nat), w.heap.size ≤ W.heap.size → Ar W G0 n0 c0 → Ar W G1 n1 c1 → Ar W G2 n2 c2 → 
      Calls Try.prog 59 #[.slice (some ⟨G0, 0, none⟩) n0 n0, .slice (some ⟨G1, 0, none⟩) n1 n1, .slice (some ⟨G2, 0, none⟩) n2 n2] W fun e w' => e = .returned (.tuple #[.bool z1, .int .i64 z2]) ∧ Below W.heap.size W w') :
    Calls Try.prog 10 #[.slice A0 n0 ca0, .slice A1 n1 ca1, .slice A2 n2 ca2] w fun e w' => e = .returned (.bool true) ∧ Below w.heap.size w w' := by
  have HS := Lib.hid hS
  have HI := Lib.hid hI
  have HR0 := Lib.hid hr0
  have HR1 := Lib.hid hr1
  have HR2 := Lib.hid hr2
  have hz0 : 0 ≤ 1048576 - (n0 : Int) := by omega
  have hy0 : 0 ≤ 1 + (n0 : Int) := by omega
  have hz1 : 0 ≤ 1048576 - (n1 : Int) := by omega
  have hy1 : 0 ≤ 1 + (n1 : Int) := by omega
  have hz2 : 0 ≤ 1048576 - (n2 : Int) := by omega
  have hy2 : 0 ≤ 1 + (n2 : Int) := by omega
  have B : Below w.heap.size w w := Below.refl _ _
  clear hS hI hr0 hr1 hr2
  go_enter Try.func10, Try.ntmps10
  have hrrz1 : (z1 != z1) = false := by simp
  have hrrz2 : (z2 != z2) = false := by simp
  go_wp2_with fail
  refine (toInt64S_any A0 n0 ca0 w.heap.size c0 _ (by omega) B.size (HR0.out.below B)).mono ?_
  rintro e w1 ⟨ga0, rfl, hg, hb, Xa0⟩
  have bzga0 : w.heap.size ≤ ga0 := Nat.le_trans B.size hg
  replace B := nxt B hb
  clear hb
  clear hg
  go_wp2_with fail
  refine (toInt64S_any A1 n1 ca1 w.heap.size c1 _ (by omega) B.size (HR1.out.below B)).mono ?_
  rintro e w2 ⟨ga1, rfl, hg, hb, Xa1⟩
  have qga0ga1 : ga0 < ga1 := Nat.lt_of_lt_of_le Xa0.1 hg
  have bzga1 : w.heap.size ≤ ga1 := Nat.le_trans B.size hg
  replace Xa0 := Xa0.below hb
  replace B := nxt B hb
  clear hb
  clear hg
  go_wp2_with fail
  refine (toInt64S_any A2 n2 ca2 w.heap.size c2 _ (by omega) B.size (HR2.out.below B)).mono ?_
  rintro e w3 ⟨ga2, rfl, hg, hb, Xa2⟩
  have qga0ga2 : ga0 < ga2 := Nat.lt_of_lt_of_le Xa0.1 hg
  have qga1ga2 : ga1 < ga2 := Nat.lt_of_lt_of_le Xa1.1 hg
  have bzga2 : w.heap.size ≤ ga2 := Nat.le_trans B.size hg
  replace Xa0 := Xa0.below hb
  replace Xa1 := Xa1.below hb
  replace B := nxt B hb
  clear hb
  clear hg
  go_wp2_with fail
  refine (HS.out _ ga0 ga1 ga2 B.size Xa0 Xa1 Xa2).mono ?_
  rintro e w4 ⟨rfl, hb⟩
  replace Xa0 := Xa0.below hb
  replace Xa1 := Xa1.below hb
  replace Xa2 := Xa2.below hb
  replace B := nxt B hb
  clear hb
  clear Xa0
  clear Xa1
  clear Xa2
  go_wp2_with fail
  refine (toInt64S_any A0 n0 ca0 w.heap.size c0 _ (by omega) B.size (HR0.out.below B)).mono ?_
  rintro e w5 ⟨gb0, rfl, hg, hb, Xb0⟩
  have bzgb0 : w.heap.size ≤ gb0 := Nat.le_trans B.size hg
  replace B := nxt B hb
  clear hb
  clear hg
  go_wp2_with fail
  refine (toInt64S_any A1 n1 ca1 w.heap.size c1 _ (by omega) B.size (HR1.out.below B)).mono ?_
  rintro e w6 ⟨gb1, rfl, hg, hb, Xb1⟩
  have qgb0gb1 : gb0 < gb1 := Nat.lt_of_lt_of_le Xb0.1 hg
  have bzgb1 : w.heap.size ≤ gb1 := Nat.le_trans B.size hg
  replace Xb0 := Xb0.below hb
  replace B := nxt B hb
  clear hb
  clear hg
  go_wp2_with fail
  refine (toInt64S_any A2 n2 ca2 w.heap.size c2 _ (by omega) B.size (HR2.out.below B)).mono ?_
  rintro e w7 ⟨gb2, rfl, hg, hb, Xb2⟩
  have qgb0gb2 : gb0 < gb2 := Nat.lt_of_lt_of_le Xb0.1 hg
  have qgb1gb2 : gb1 < gb2 := Nat.lt_of_lt_of_le Xb1.1 hg
  have bzgb2 : w.heap.size ≤ gb2 := Nat.le_trans B.size hg
  replace Xb0 := Xb0.below hb
  replace Xb1 := Xb1.below hb
  replace B := nxt B hb
  clear hb
  clear hg
  go_wp2_with fail
  refine (HI.out _ gb0 gb1 gb2 B.size Xb0 Xb1 Xb2).mono ?_
  rintro e w8 ⟨rfl, hb⟩
  replace Xb0 := Xb0.below hb
  replace Xb1 := Xb1.below hb
  replace Xb2 := Xb2.below hb
  replace B := nxt B hb
  clear hb
  go_wp2_with fail
  refine (toInt64S_any A0 n0 ca0 w.heap.size c0 _ (by omega) B.size (HR0.out.below B)).mono ?_
  rintro e w9 ⟨gc0, rfl, hg, hb, Xc0⟩
  have qgb0gc0 : gb0 < gc0 := Nat.lt_of_lt_of_le Xb0.1 hg
  have qgb1gc0 : gb1 < gc0 := Nat.lt_of_lt_of_le Xb1.1 hg
  have qgb2gc0 : gb2 < gc0 := Nat.lt_of_lt_of_le Xb2.1 hg
  have bzgc0 : w.heap.size ≤ gc0 := Nat.le_trans B.size hg
  replace Xb0 := Xb0.below hb
  replace Xb1 := Xb1.below hb
  replace Xb2 := Xb2.below hb
  replace B := nxt B hb
  clear hb
  clear hg
  go_wp2_with fail
  refine (eqInt64S_any (some ⟨gb0, 0, none⟩) (some ⟨gc0, 0, none⟩) n0 n0 n0 n0 _ c0 c0 _ (by omega) (by omega) (Nat.le_refl _) Xb0.rd Xc0.rd ⟨rfl, fun _ _ => rfl⟩).mono ?_
  rintro e w10 ⟨rfl, hb⟩
  replace Xb0 := Xb0.below hb
  replace Xb1 := Xb1.below hb
  replace Xb2 := Xb2.below hb
  replace Xc0 := Xc0.below hb
  replace B := nxt B hb
  clear hb
  clear Xc0
  go_wp2_with fail
  refine (toInt64S_any A1 n1 ca1 w.heap.size c1 _ (by omega) B.size (HR1.out.below B)).mono ?_
  rintro e w11 ⟨gc1, rfl, hg, hb, Xc1⟩
  have qgb0gc1 : gb0 < gc1 := Nat.lt_of_lt_of_le Xb0.1 hg
  have qgb1gc1 : gb1 < gc1 := Nat.lt_of_lt_of_le Xb1.1 hg
  have qgb2gc1 : gb2 < gc1 := Nat.lt_of_lt_of_le Xb2.1 hg
  have bzgc1 : w.heap.size ≤ gc1 := Nat.le_trans B.size hg
  replace Xb0 := Xb0.below hb
  replace Xb1 := Xb1.below hb
  replace Xb2 := Xb2.below hb
  replace B := nxt B hb
  clear hb
  clear hg
  go_wp2_with fail
  refine (eqInt64S_any (some ⟨gb1, 0, none⟩) (some ⟨gc1, 0, none⟩) n1 n1 n1 n1 _ c1 c1 _ (by omega) (by omega) (Nat.le_refl _) Xb1.rd Xc1.rd ⟨rfl, fun _ _ => rfl⟩).mono ?_
  rintro e w12 ⟨rfl, hb⟩
  replace Xb0 := Xb0.below hb
  replace Xb1 := Xb1.below hb
  replace Xb2 := Xb2.below hb
  replace Xc1 := Xc1.below hb
  replace B := nxt B hb
  clear hb
  clear Xc1
  go_wp2_with fail
  refine (toInt64S_any A2 n2 ca2 w.heap.size c2 _ (by omega) B.size (HR2.out.below B)).mono ?_
  rintro e w13 ⟨gc2, rfl, hg, hb, Xc2⟩
  have qgb0gc2 : gb0 < gc2 := Nat.lt_of_lt_of_le Xb0.1 hg
  have qgb1gc2 : gb1 < gc2 := Nat.lt_of_lt_of_le Xb1.1 hg
  have qgb2gc2 : gb2 < gc2 := Nat.lt_of_lt_of_le Xb2.1 hg
  have bzgc2 : w.heap.size ≤ gc2 := Nat.le_trans B.size hg
  replace Xb0 := Xb0.below hb
  replace Xb1 := Xb1.below hb
  replace Xb2 := Xb2.below hb
  replace B := nxt B hb
  clear hb
  clear hg
  go_wp2_with fail
  refine (eqInt64S_any (some ⟨gb2, 0, none⟩) (some ⟨gc2, 0, none⟩) n2 n2 n2 n2 _ c2 c2 _ (by omega) (by omega) (Nat.le_refl _) Xb2.rd Xc2.rd ⟨rfl, fun _ _ => rfl⟩).mono ?_
  rintro e w14 ⟨rfl, hb⟩
  replace Xb0 := Xb0.below hb
  replace Xb1 := Xb1.below hb
  replace Xb2 := Xb2.below hb
  replace Xc2 := Xc2.below hb
  replace B := nxt B hb
  clear hb
  clear Xc2
  go_wp2_with fail
  go_ret
  exact ⟨rfl, B⟩

theorem big0 (A0 : Option Addr) (n0 ca0 : Nat) (c0 : Nat → Int) (A1 : Option Addr) (n1 ca1 : Nat) (c1 : Nat → Int) (A2 : Option Addr) (n2 ca2 : Nat) (c2 : Nat → Int) (w : World)  (hn : 1048576 < n0) (hm : n0 ≤ 9223372036854775807) :
    Calls Try.prog 10 #[.slice A0 n0 ca0, .slice A1 n1 ca1, .slice A2 n2 ca2] w fun e w' => e = .returned (.bool true) ∧ Below w.heap.size w w' := by
  go_enter Try.func10, Try.ntmps10
  go_wp2_with fail
  go_ret
  exact ⟨rfl, Below.refl _ _⟩

theorem big1 (A0 : Option Addr) (n0 ca0 : Nat) (c0 : Nat → Int) (A1 : Option Addr) (n1 ca1 : Nat) (c1 : Nat → Int) (A2 : Option Addr) (n2 ca2 : Nat) (c2 : Nat → Int) (w : World) (hn0 : n0 ≤ 1048576) (hn : 1048576 < n1) (hm : n1 ≤ 9223372036854775807) :
    Calls Try.prog 10 #[.slice A0 n0 ca0, .slice A1 n1 ca1, .slice A2 n2 ca2] w fun e w' => e = .returned (.bool true) ∧ Below w.heap.size w w' := by
  go_enter Try.func10, Try.ntmps10
  go_wp2_with fail
  go_ret
  exact ⟨rfl, Below.refl _ _⟩

theorem big2 (A0 : Option Addr) (n0 ca0 : Nat) (c0 : Nat → Int) (A1 : Option Addr) (n1 ca1 : Nat) (c1 : Nat → Int) (A2 : Option Addr) (n2 ca2 : Nat) (c2 : Nat → Int) (w : World) (hn0 : n0 ≤ 1048576) (hn1 : n1 ≤ 1048576) (hn : 1048576 < n2) (hm : n2 ≤ 9223372036854775807) :
    Calls Try.prog 10 #[.slice A0 n0 ca0, .slice A1 n1 ca1, .slice A2 n2 ca2] w fun e w' => e = .returned (.bool true) ∧ Below w.heap.size w w' := by
  go_enter Try.func10, Try.ntmps10
  go_wp2_with fail
  go_ret
  exact ⟨rfl, Below.refl _ _⟩

theorem walk (A0 : Option Addr) (n0 ca0 : Nat) (c0 : Nat → Int) (A1 : Option Addr) (n1 ca1 : Nat) (c1 : Nat → Int) (A2 : Option Addr) (n2 ca2 : Nat) (c2 : Nat → Int) (w : World) (hm0 : n0 ≤ 9223372036854775807) (hc0 : ∀ j, (Lit.int .i64 (c0 j)).wf = true) (hm1 : n1 ≤ 9223372036854775807) (hc1 : ∀ j, (Lit.int .i64 (c1 j)).wf = true) (hm2 : n2 ≤ 9223372036854775807) (hc2 : ∀ j, (Lit.int .i64 (c2 j)).wf = true)
    (hr0 : RdK .i64 w w.heap.size A0 n0 c0) (hr1 : RdK .i64 w w.heap.size A1 n1 c1) (hr2 : RdK .i64 w w.heap.size A2 n2 c2) :
    Calls Try.prog 10 #[.slice A0 n0 ca0, .slice A1 n1 ca1, .slice A2 n2 ca2] w fun e w' => e = .returned (.bool true) ∧ Below w.heap.size w w' := by
  by_cases hn0 : 1048576 < n0
  · exact big0 A0 n0 ca0 c0 A1 n1 ca1 c1 A2 n2 ca2 c2 w  hn0 hm0
  by_cases hn1 : 1048576 < n1
  · exact big1 A0 n0 ca0 c0 A1 n1 ca1 c1 A2 n2 ca2 c2 w (by omega) hn1 hm1
  by_cases hn2 : 1048576 < n2
  · exact big2 A0 n0 ca0 c0 A1 n1 ca1 c1 A2 n2 ca2 c2 w (by omega) (by omega) hn2 hm2
  obtain ⟨z1, z2, hS, hI⟩ := both n0 c0 n1 c1 n2 c2 hc0 (by omega) hc1 (by omega) hc2 (by omega)
  exact law A0 n0 ca0 c0 A1 n1 ca1 c1 A2 n2 ca2 c2 z1 z2 w (by omega) (by omega) (by omega) hr0 hr1 hr2 (fun W G0 G1 G2 _ R0 R1 R2 => hS W G0 G1 G2 R0 R1 R2) (fun W G0 G1 G2 _ R0 R1 R2 => hI W G0 G1 G2 R0 R1 R2)

end Go.Proofs.Ytkggimalkjjnoaa.checkStacks
