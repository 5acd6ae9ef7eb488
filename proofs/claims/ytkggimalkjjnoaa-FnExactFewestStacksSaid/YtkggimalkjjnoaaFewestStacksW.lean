/-
  The walk of the law FnExactFewestStacks. Conditions stand at each.
-/
import Derived.Test.YtkggimalkjjnoaaRows
import Derived.Test.YtkggimalkjjnoaaNums
import Derived.Test.YtkggimalkjjnoaaFewestStacksB
import Derived.Deep.RegionHeld3
import Derived.Lib.SmallJoins
namespace Go.Proofs.Ytkggimalkjjnoaa.fewestStacks
open Go Go.ChangeShapes Go.WideShapes Go.ChangeAt Go.RowKit
set_option linter.unusedVariables false
set_option linter.unusedSimpArgs false
set_option maxRecDepth 100000
set_option maxHeartbeats 2000000

theorem law (A0 : Option Addr) (n0 ca0 : Nat) (c0 : Nat → Int) (A1 : Option Addr) (n1 ca1 : Nat) (c1 : Nat → Int) (nn : Nat) (ff : Nat → Int) (z1 : Int) (z2 : Int) (w : World) (hn0 : n0 ≤ 1048576) (hn1 : n1 ≤ 1048576) (hnn : nn ≤ 1000)
    (hr0 : RdK .i64 w w.heap.size A0 n0 c0) (hr1 : RdK .i64 w w.heap.size A1 n1 c1)
    (hS : ∀ (W : World) (G0 G1 : Nat), w.heap.size ≤ W.heap.size → Ar W G0 n0 c0 → Ar W G1 n1 c1 → 
      Calls Try.prog 56 #[.slice (some ⟨G0, 0, none⟩) n0 n0, .slice (some ⟨G1, 0, none⟩) n1 n1] W fun e w' => Below W.heap.size W w' ∧ ∃ v, e = .returned (.tuple #[v, .int .i64 z1, .int .i64 z2]) ∧ HasSlice .i64 1 w' W.heap.size v nn ff)
    (hI : ∀ (W : World) (G0 G1 : Nat), w.heap.size ≤ W.heap.size → Ar W G0 n0 c0 → Ar W G1 n1 c1 → 
      Calls Try.prog 57 #[.slice (some ⟨G0, 0, none⟩) n0 n0, .slice (some ⟨G1, 0, none⟩) n1 n1] W fun e w' => Below W.heap.size W w' ∧ ∃ v, e = .returned (.tuple #[v, .int .i64 z1, .int .i64 z2]) ∧ HasSlice .i64 1 w' W.heap.size v nn ff) :
    Calls Try.prog 9 #[.slice A0 n0 ca0, .slice A1 n1 ca1] w fun e w' => e = .returned (.bool true) ∧ Below w.heap.size w w' := by
  have HS := Lib.hid hS
  have HI := Lib.hid hI
  have HR0 := Lib.hid hr0
  have HR1 := Lib.hid hr1
  have hz0 : 0 ≤ 1048576 - (n0 : Int) := by omega
  have hy0 : 0 ≤ 1 + (n0 : Int) := by omega
  have hz1 : 0 ≤ 1048576 - (n1 : Int) := by omega
  have hy1 : 0 ≤ 1 + (n1 : Int) := by omega
  have B : Below w.heap.size w w := Below.refl _ _
  clear hS hI hr0 hr1
  go_enter Try.func9, Try.ntmps9
  have hrrz1 : (z1 != z1) = false := by simp
  have hrrz2 : (z2 != z2) = false := by simp
  go_wp2_with fail
  refine (toInt64S_any A0 n0 ca0 w.heap.size c0 _ (by omega) B.size (HR0.out.below B)).mono ?_
  rintro e w1 ⟨ga0, rfl, hg, hb, Xa0⟩
  have bzga0 : w.heap.size ≤ ga0 := Nat.le_trans B.size hg
  replace B := nxt B hb
  clear hb
  clear hg
  go_wp2_with fail
  refine (toInt64S_any A1 n1 ca1 w.heap.size c1 _ (by omega) B.size (HR1.out.below B)).mono ?_
  rintro e w2 ⟨ga1, rfl, hg, hb, Xa1⟩
  have qga0ga1 : ga0 < ga1 := Nat.lt_of_lt_of_le Xa0.1 hg
  have bzga1 : w.heap.size ≤ ga1 := Nat.le_trans B.size hg
  replace Xa0 := Xa0.below hb
  replace B := nxt B hb
  clear hb
  clear hg
  go_wp2_with fail
  refine (HS.out _ ga0 ga1 B.size Xa0 Xa1).mono ?_
  rintro e w3 ⟨hb, v5, rfl, A5, g5, cap5, S5⟩
  obtain rfl := S5.1
  have qga0g5 : 0 < nn → ga0 < g5 := fun h => Nat.lt_of_lt_of_le Xa0.1 (S5.2.1 h).2.1
  have qga1g5 : 0 < nn → ga1 < g5 := fun h => Nat.lt_of_lt_of_le Xa1.1 (S5.2.1 h).2.1
  have bzg5 : 0 < nn → w.heap.size ≤ g5 := fun h => Nat.le_trans B.size (S5.2.1 h).2.1
  replace Xa0 := Xa0.below hb
  replace Xa1 := Xa1.below hb
  replace B := nxt B hb
  clear hb
  clear Xa0
  clear Xa1
  go_wp2_with fail
  refine (toInt64S_any A0 n0 ca0 w.heap.size c0 _ (by omega) B.size (HR0.out.below B)).mono ?_
  rintro e w4 ⟨gb0, rfl, hg, hb, Xb0⟩
  have qg5gb0 : 0 < nn → g5 < gb0 := fun h => Nat.lt_of_lt_of_le (S5.2.1 h).2.2 hg
  have bzgb0 : w.heap.size ≤ gb0 := Nat.le_trans B.size hg
  replace S5 := S5.below hb
  replace B := nxt B hb
  clear hb
  clear hg
  go_wp2_with fail
  refine (toInt64S_any A1 n1 ca1 w.heap.size c1 _ (by omega) B.size (HR1.out.below B)).mono ?_
  rintro e w5 ⟨gb1, rfl, hg, hb, Xb1⟩
  have qg5gb1 : 0 < nn → g5 < gb1 := fun h => Nat.lt_of_lt_of_le (S5.2.1 h).2.2 hg
  have qgb0gb1 : gb0 < gb1 := Nat.lt_of_lt_of_le Xb0.1 hg
  have bzgb1 : w.heap.size ≤ gb1 := Nat.le_trans B.size hg
  replace S5 := S5.below hb
  replace Xb0 := Xb0.below hb
  replace B := nxt B hb
  clear hb
  clear hg
  go_wp2_with fail
  refine (HI.out _ gb0 gb1 B.size Xb0 Xb1).mono ?_
  rintro e w6 ⟨hb, v9, rfl, A9, g9, cap9, S9⟩
  obtain rfl := S9.1
  have qg5g9 : 0 < nn → g5 < g9 := fun h => Nat.lt_of_lt_of_le (S5.2.1 h).2.2 (S9.2.1 h).2.1
  have qgb0g9 : 0 < nn → gb0 < g9 := fun h => Nat.lt_of_lt_of_le Xb0.1 (S9.2.1 h).2.1
  have qgb1g9 : 0 < nn → gb1 < g9 := fun h => Nat.lt_of_lt_of_le Xb1.1 (S9.2.1 h).2.1
  have bzg9 : 0 < nn → w.heap.size ≤ g9 := fun h => Nat.le_trans B.size (S9.2.1 h).2.1
  replace S5 := S5.below hb
  replace Xb0 := Xb0.below hb
  replace Xb1 := Xb1.below hb
  replace B := nxt B hb
  clear hb
  go_wp2_with fail
  refine (eqInt64S_any A9 A5 nn nn cap9 cap5 _ ff ff _ (by omega) (by omega) (Nat.le_refl _) (S9.rdN) (S5.rdN) ⟨rfl, fun _ _ => rfl⟩).mono ?_
  rintro e w7 ⟨rfl, hb⟩
  replace S5 := S5.below hb
  replace Xb0 := Xb0.below hb
  replace Xb1 := Xb1.below hb
  replace S9 := S9.below hb
  replace B := nxt B hb
  clear hb
  go_wp2_with fail
  refine (toInt64S_any A0 n0 ca0 w.heap.size c0 _ (by omega) B.size (HR0.out.below B)).mono ?_
  rintro e w8 ⟨gc0, rfl, hg, hb, Xc0⟩
  have qg5gc0 : 0 < nn → g5 < gc0 := fun h => Nat.lt_of_lt_of_le (S5.2.1 h).2.2 hg
  have qgb0gc0 : gb0 < gc0 := Nat.lt_of_lt_of_le Xb0.1 hg
  have qgb1gc0 : gb1 < gc0 := Nat.lt_of_lt_of_le Xb1.1 hg
  have qg9gc0 : 0 < nn → g9 < gc0 := fun h => Nat.lt_of_lt_of_le (S9.2.1 h).2.2 hg
  have bzgc0 : w.heap.size ≤ gc0 := Nat.le_trans B.size hg
  replace S5 := S5.below hb
  replace Xb0 := Xb0.below hb
  replace Xb1 := Xb1.below hb
  replace S9 := S9.below hb
  replace B := nxt B hb
  clear hb
  clear hg
  go_wp2_with fail
  refine (eqInt64S_any (some ⟨gb0, 0, none⟩) (some ⟨gc0, 0, none⟩) n0 n0 n0 n0 _ c0 c0 _ (by omega) (by omega) (Nat.le_refl _) Xb0.rd Xc0.rd ⟨rfl, fun _ _ => rfl⟩).mono ?_
  rintro e w9 ⟨rfl, hb⟩
  replace S5 := S5.below hb
  replace Xb0 := Xb0.below hb
  replace Xb1 := Xb1.below hb
  replace S9 := S9.below hb
  replace Xc0 := Xc0.below hb
  replace B := nxt B hb
  clear hb
  clear Xc0
  go_wp2_with fail
  refine (toInt64S_any A1 n1 ca1 w.heap.size c1 _ (by omega) B.size (HR1.out.below B)).mono ?_
  rintro e w10 ⟨gc1, rfl, hg, hb, Xc1⟩
  have qg5gc1 : 0 < nn → g5 < gc1 := fun h => Nat.lt_of_lt_of_le (S5.2.1 h).2.2 hg
  have qgb0gc1 : gb0 < gc1 := Nat.lt_of_lt_of_le Xb0.1 hg
  have qgb1gc1 : gb1 < gc1 := Nat.lt_of_lt_of_le Xb1.1 hg
  have qg9gc1 : 0 < nn → g9 < gc1 := fun h => Nat.lt_of_lt_of_le (S9.2.1 h).2.2 hg
  have bzgc1 : w.heap.size ≤ gc1 := Nat.le_trans B.size hg
  replace S5 := S5.below hb
  replace Xb0 := Xb0.below hb
  replace Xb1 := Xb1.below hb
  replace S9 := S9.below hb
  replace B := nxt B hb
  clear hb
  clear hg
  go_wp2_with fail
  refine (eqInt64S_any (some ⟨gb1, 0, none⟩) (some ⟨gc1, 0, none⟩) n1 n1 n1 n1 _ c1 c1 _ (by omega) (by omega) (Nat.le_refl _) Xb1.rd Xc1.rd ⟨rfl, fun _ _ => rfl⟩).mono ?_
  rintro e w11 ⟨rfl, hb⟩
  replace S5 := S5.below hb
  replace Xb0 := Xb0.below hb
  replace Xb1 := Xb1.below hb
  replace S9 := S9.below hb
  replace Xc1 := Xc1.below hb
  replace B := nxt B hb
  clear hb
  clear Xc1
  go_wp2_with fail
  refine (markInt64S_any (some ⟨gb0, 0, none⟩) gb0 0 n0 n0 c0 (1) _ (by omega) (by omega) (by omega) (fun _ => rfl) Xb0.2).mono ?_
  rintro e w12 ⟨rfl, hgr, _⟩
  replace S5 := S5.kept hgr.size (fun h => blockG hgr (S5.2.1 h).2.2 (fun hm => by have := (qg5gb0 h); omega))
  replace Xb1 := Xb1.kept hgr.size (blockG hgr Xb1.1 (fun hm => by have := qgb0gb1; omega))
  replace S9 := S9.kept hgr.size (fun h => blockG hgr (S9.2.1 h).2.2 (fun hm => by have := (qgb0g9 h); omega))
  replace B := below_rowOf B hgr B.size (fun _ => bzgb0)
  clear hgr
  clear Xb0
  have hyy0 : 0 ≤ 1 + (n0 : Int) := by omega
  go_wp2_with fail
  refine (markInt64S_any (some ⟨gb1, 0, none⟩) gb1 0 n1 n1 c1 (1 + (n0 : Int)) _ (by omega) (by omega) (by omega) (fun _ => rfl) Xb1.2).mono ?_
  rintro e w13 ⟨rfl, hgr, _⟩
  replace S5 := S5.kept hgr.size (fun h => blockG hgr (S5.2.1 h).2.2 (fun hm => by have := (qg5gb1 h); omega))
  replace S9 := S9.kept hgr.size (fun h => blockG hgr (S9.2.1 h).2.2 (fun hm => by have := (qgb1g9 h); omega))
  replace B := below_rowOf B hgr B.size (fun _ => bzgb1)
  clear hgr
  clear Xb1
  have hyy1 : 0 ≤ 1 + (n0 : Int) + (n1 : Int) := by omega
  go_wp2_with fail
  refine (eqInt64S_any A9 A5 nn nn cap9 cap5 _ ff ff _ (by omega) (by omega) (Nat.le_refl _) (S9.rdN) (S5.rdN) ⟨rfl, fun _ _ => rfl⟩).mono ?_
  rintro e w14 ⟨rfl, hb⟩
  replace S5 := S5.below hb
  replace S9 := S9.below hb
  replace B := nxt B hb
  clear hb
  go_wp2_with fail
  have hk9 : 0 ≤ 1 + (nn : Int) := by omega
  have hkk : (1 + (nn : Int) != 1 + (nn : Int)) = false := by simp
  refine (markInt64S_any A9 g9 0 nn cap9 ff 1 _ (by omega) (by omega) (by omega) (fun h => (S9.2.1 h).1) S9.own).mono ?_
  rintro e w15 ⟨rfl, hgr, ho⟩
  replace S5 := S5.kept hgr.size (fun h => blockG hgr (S5.2.1 h).2.2 (fun hm => by have := (qg5g9 h); omega))
  replace S9 := S9.marked hgr.size (by simpa using ho)
  replace B := below_rowOf B hgr B.size bzg9
  clear hgr ho
  go_wp2_with fail
  refine (heldInt64S_any A9 g9 0 nn cap9 1 _ (by omega) (by omega) (by omega) (fun h => (S9.2.1 h).1) S9.own).mono ?_
  rintro e w16 ⟨rfl, rfl⟩
  go_wp2_with fail
  refine (toInt64S_any A0 n0 ca0 w.heap.size c0 _ (by omega) B.size (HR0.out.below B)).mono ?_
  rintro e w17 ⟨gd0, rfl, hg, hb, Xd0⟩
  have qg5gd0 : 0 < nn → g5 < gd0 := fun h => Nat.lt_of_lt_of_le (S5.2.1 h).2.2 hg
  have qg9gd0 : 0 < nn → g9 < gd0 := fun h => Nat.lt_of_lt_of_le (S9.2.1 h).2.2 hg
  have bzgd0 : w.heap.size ≤ gd0 := Nat.le_trans B.size hg
  replace S5 := S5.below hb
  replace S9 := S9.below hb
  replace B := nxt B hb
  clear hb
  clear hg
  go_wp2_with fail
  refine (toInt64S_any A1 n1 ca1 w.heap.size c1 _ (by omega) B.size (HR1.out.below B)).mono ?_
  rintro e w18 ⟨gd1, rfl, hg, hb, Xd1⟩
  have qg5gd1 : 0 < nn → g5 < gd1 := fun h => Nat.lt_of_lt_of_le (S5.2.1 h).2.2 hg
  have qg9gd1 : 0 < nn → g9 < gd1 := fun h => Nat.lt_of_lt_of_le (S9.2.1 h).2.2 hg
  have qgd0gd1 : gd0 < gd1 := Nat.lt_of_lt_of_le Xd0.1 hg
  have bzgd1 : w.heap.size ≤ gd1 := Nat.le_trans B.size hg
  replace S5 := S5.below hb
  replace S9 := S9.below hb
  replace Xd0 := Xd0.below hb
  replace B := nxt B hb
  clear hb
  clear hg
  go_wp2_with fail
  refine (HI.out _ gd0 gd1 B.size Xd0 Xd1).mono ?_
  rintro e w19 ⟨hb, v19, rfl, A19, g19, cap19, S19⟩
  obtain rfl := S19.1
  have qg5g19 : 0 < nn → g5 < g19 := fun h => Nat.lt_of_lt_of_le (S5.2.1 h).2.2 (S19.2.1 h).2.1
  have qg9g19 : 0 < nn → g9 < g19 := fun h => Nat.lt_of_lt_of_le (S9.2.1 h).2.2 (S19.2.1 h).2.1
  have qgd0g19 : 0 < nn → gd0 < g19 := fun h => Nat.lt_of_lt_of_le Xd0.1 (S19.2.1 h).2.1
  have qgd1g19 : 0 < nn → gd1 < g19 := fun h => Nat.lt_of_lt_of_le Xd1.1 (S19.2.1 h).2.1
  have bzg19 : 0 < nn → w.heap.size ≤ g19 := fun h => Nat.le_trans B.size (S19.2.1 h).2.1
  replace S5 := S5.below hb
  replace S9 := S9.below hb
  replace Xd0 := Xd0.below hb
  replace Xd1 := Xd1.below hb
  replace B := nxt B hb
  clear hb
  clear Xd0
  clear Xd1
  go_wp2_with fail
  refine (eqInt64S_any A19 A5 nn nn cap19 cap5 _ ff ff _ (by omega) (by omega) (Nat.le_refl _) (S19.rdN) (S5.rdN) ⟨rfl, fun _ _ => rfl⟩).mono ?_
  rintro e w20 ⟨rfl, hb⟩
  replace S5 := S5.below hb
  replace S9 := S9.below hb
  replace S19 := S19.below hb
  replace B := nxt B hb
  clear hb
  go_wp2_with fail
  refine (heldInt64S_any A9 g9 0 nn cap9 1 _ (by omega) (by omega) (by omega) (fun h => (S9.2.1 h).1) S9.own).mono ?_
  rintro e w21 ⟨rfl, rfl⟩
  go_wp2_with fail
  go_ret
  exact ⟨rfl, B⟩

theorem big0 (A0 : Option Addr) (n0 ca0 : Nat) (c0 : Nat → Int) (A1 : Option Addr) (n1 ca1 : Nat) (c1 : Nat → Int) (w : World)  (hn : 1048576 < n0) (hm : n0 ≤ 9223372036854775807) :
    Calls Try.prog 9 #[.slice A0 n0 ca0, .slice A1 n1 ca1] w fun e w' => e = .returned (.bool true) ∧ Below w.heap.size w w' := by
  go_enter Try.func9, Try.ntmps9
  go_wp2_with fail
  go_ret
  exact ⟨rfl, Below.refl _ _⟩

theorem big1 (A0 : Option Addr) (n0 ca0 : Nat) (c0 : Nat → Int) (A1 : Option Addr) (n1 ca1 : Nat) (c1 : Nat → Int) (w : World) (hn0 : n0 ≤ 1048576) (hn : 1048576 < n1) (hm : n1 ≤ 9223372036854775807) :
    Calls Try.prog 9 #[.slice A0 n0 ca0, .slice A1 n1 ca1] w fun e w' => e = .returned (.bool true) ∧ Below w.heap.size w w' := by
  go_enter Try.func9, Try.ntmps9
  go_wp2_with fail
  go_ret
  exact ⟨rfl, Below.refl _ _⟩

theorem walk (A0 : Option Addr) (n0 ca0 : Nat) (c0 : Nat → Int) (A1 : Option Addr) (n1 ca1 : Nat) (c1 : Nat → Int) (w : World) (hm0 : n0 ≤ 9223372036854775807) (hc0 : ∀ j, (Lit.int .i64 (c0 j)).wf = true) (hm1 : n1 ≤ 9223372036854775807) (hc1 : ∀ j, (Lit.int .i64 (c1 j)).wf = true)
    (hr0 : RdK .i64 w w.heap.size A0 n0 c0) (hr1 : RdK .i64 w w.heap.size A1 n1 c1) :
    Calls Try.prog 9 #[.slice A0 n0 ca0, .slice A1 n1 ca1] w fun e w' => e = .returned (.bool true) ∧ Below w.heap.size w w' := by
  by_cases hn0 : 1048576 < n0
  · exact big0 A0 n0 ca0 c0 A1 n1 ca1 c1 w  hn0 hm0
  by_cases hn1 : 1048576 < n1
  · exact big1 A0 n0 ca0 c0 A1 n1 ca1 c1 w (by omega) hn1 hm1
  obtain ⟨nn, ff, z1, z2, hnn, hS, hI⟩ := both n0 c0 n1 c1 hc0 (by omega) hc1 (by omega)
  exact law A0 n0 ca0 c0 A1 n1 ca1 c1 nn ff z1 z2 w (by omega) (by omega) hnn hr0 hr1 (fun W G0 G1 _ R0 R1 => hS W G0 G1 R0 R1) (fun W G0 G1 _ R0 R1 => hI W G0 G1 R0 R1)

end Go.Proofs.Ytkggimalkjjnoaa.fewestStacks
