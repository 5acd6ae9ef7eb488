/-
  The walk of the law FnExactLiftAll. Conditions stand at each.
-/
import Derived.Test.YtkggimalkjjnoaaRows
import Derived.Test.YtkggimalkjjnoaaSqN
import Derived.Test.YtkggimalkjjnoaaLiftAllB
import Derived.Deep.RegionHeld3
import Derived.Deep.DeepCutAuto
import Derived.Lib.SmallJoins
namespace Go.Proofs.Ytkggimalkjjnoaa.liftAll
open Go Go.ChangeShapes Go.WideShapes Go.ChangeAt Go.RowKit
set_option linter.unusedVariables false
set_option linter.unusedSimpArgs false
set_option maxRecDepth 100000
set_option maxHeartbeats 4000000

theorem law (X0 Y0 : Int) (A0 : Option Addr) (n0 ca0 : Nat) (c0 : Nat → Int) (A1 : Option Addr) (n1 ca1 : Nat) (c1 : Nat → Int) (rX rY : Int) (z2 : Int) (nn0 : Nat) (ff0 : Nat → Int) (nn1 : Nat) (ff1 : Nat → Int) (w : World) (hn0 : n0 ≤ 1048576) (hn1 : n1 ≤ 1048576) (hnn0 : nn0 ≤ 1000) (hnn1 : nn1 ≤ 1000)
    (hr0 : Rd8 w w.heap.size A0 (4 * n0) c0) (hr1 : RdK .i64 w w.heap.size A1 n1 c1)
    (hS : ∀ (W : World) (G0 G1 : Nat), w.heap.size ≤ W.heap.size → Ab W G0 n0 c0 → Ar W G1 n1 c1 → 
      Calls Try.prog 38 #[.agg #[.int .i8 X0, .int .i8 Y0, .slice (some ⟨G0, 0, none⟩) n0 n0], .slice (some ⟨G1, 0, none⟩) n1 n1] W fun e w' => Below W.heap.size W w' ∧ ∃ v0 v1, e = .returned (.tuple #[.agg #[.int .i8 rX, .int .i8 rY, v0], v1, .int .i64 z2]) ∧ HasSlice .i8 4 w' W.heap.size v0 nn0 ff0 ∧ HasSlice .i8 4 w' W.heap.size v1 nn1 ff1 ∧ (v0.ownBlock = none ∨ v0.ownBlock ≠ v1.ownBlock))
    (hI : ∀ (W : World) (G0 G1 : Nat), w.heap.size ≤ W.heap.size → Ab W G0 n0 c0 → Ar W G1 n1 c1 → 
      Calls Try.prog 40 #[.agg #[.int .i8 X0, .int .i8 Y0, .slice (some ⟨G0, 0, none⟩) n0 n0], .slice (some ⟨G1, 0, none⟩) n1 n1] W fun e w' => Below W.heap.size W w' ∧ ∃ v0 v1, e = .returned (.tuple #[.agg #[.int .i8 rX, .int .i8 rY, v0], v1, .int .i64 z2]) ∧ HasSlice .i8 4 w' W.heap.size v0 nn0 ff0 ∧ HasSlice .i8 4 w' W.heap.size v1 nn1 ff1 ∧ (v0.ownBlock = none ∨ v0.ownBlock ≠ v1.ownBlock)) :
    Calls Try.prog 4 #[.agg #[.int .i8 X0, .int .i8 Y0, .slice A0 n0 ca0], .slice A1 n1 ca1] w fun e w' => e = .returned (.bool true) ∧ Below w.heap.size w w' := by
  have HS := Lib.hid hS
  have HI := Lib.hid hI
  have HW := Nat.le_refl w.heap.size
  have HR0 := Lib.hid hr0
  have hz0 : 0 ≤ 1048576 - (n0 : Int) := by omega
  have HR1 := Lib.hid hr1
  have hz1 : 0 ≤ 1048576 - (n1 : Int) := by omega
  have hrr2 : (z2 != z2) = false := by simp
  have B : Below w.heap.size w w := Below.refl _ _
  clear hS hI HW hr0 hr1
  go_enter Try.func4, Try.ntmps4
  have P0 := (Bx.new w #[.int .i8 X0, .int .i8 Y0, .slice A0 n0 ca0] 25)
  replace B := (al B (Obj.cells #[.int .i8 X0, .int .i8 Y0, .slice A0 n0 ca0] 25))
  go_wp2_with (refine wpList_load_box P0 rfl _ _ rfl rfl _ Try.underlying25 rfl (by kernel_rfl) ?_)
  refine (szSquare_ok X0 Y0 (1048576) A0 n0 ca0 _ (by omega) (by omega) (by omega)).mono ?_
  rintro e w1 ⟨rfl, hb⟩
  replace P0 := P0.below hb
  replace B := nxt B hb
  clear hb
  go_wp2_with (refine wpList_load_box P0 rfl _ _ rfl rfl _ Try.underlying25 rfl (by kernel_rfl) ?_)
  refine (toSquare_ab X0 Y0 A0 n0 ca0 w.heap.size c0 _ (by omega) B.size (HR0.out.below B)).mono ?_
  rintro e w2 ⟨g50, rfl, hg, hb, R50⟩
  have lt0 : w.heap.size < g50 := Nat.lt_of_lt_of_le P0.lt hg
  have bzg50 : w.heap.size ≤ g50 := Nat.le_trans B.size hg
  replace P0 := P0.below hb
  replace B := nxt B hb
  clear hb
  clear hg
  go_wp2_with fail
  refine (toInt64S_any A1 n1 ca1 w.heap.size c1 _ (by omega) B.size (HR1.out.below B)).mono ?_
  rintro e w3 ⟨g51, rfl, hg, hb, R51⟩
  have lt1 : w.heap.size < g51 := Nat.lt_of_lt_of_le P0.lt hg
  have lt2 : g50 < g51 := Nat.lt_of_lt_of_le R50.1 hg
  have bzg51 : w.heap.size ≤ g51 := Nat.le_trans B.size hg
  replace P0 := P0.below hb
  replace R50 := R50.below hb
  replace B := nxt B hb
  clear hb
  clear hg
  go_wp2_with fail
  refine (HS.out _ g50 g51 B.size R50 R51).mono ?_
  rintro e w4 ⟨hb, v5_0, v5_1, rfl, ⟨A5_0, g5_0, cap5_0, S5_0⟩, ⟨A5_1, g5_1, cap5_1, S5_1⟩, hap⟩
  obtain rfl := S5_0.1
  obtain rfl := S5_1.1
  have lt3 : 0 < nn0 → w.heap.size < g5_0 := fun h2 => Nat.lt_of_lt_of_le P0.lt (S5_0.2.1 h2).2.1
  have lt4 : 0 < nn0 → g50 < g5_0 := fun h2 => Nat.lt_of_lt_of_le R50.1 (S5_0.2.1 h2).2.1
  have lt5 : 0 < nn0 → g51 < g5_0 := fun h2 => Nat.lt_of_lt_of_le R51.1 (S5_0.2.1 h2).2.1
  have bzg5_0 : 0 < nn0 → w.heap.size ≤ g5_0 := fun h => Nat.le_trans B.size (S5_0.2.1 h).2.1
  have lt6 : 0 < nn1 → w.heap.size < g5_1 := fun h2 => Nat.lt_of_lt_of_le P0.lt (S5_1.2.1 h2).2.1
  have lt7 : 0 < nn1 → g50 < g5_1 := fun h2 => Nat.lt_of_lt_of_le R50.1 (S5_1.2.1 h2).2.1
  have lt8 : 0 < nn1 → g51 < g5_1 := fun h2 => Nat.lt_of_lt_of_le R51.1 (S5_1.2.1 h2).2.1
  have bzg5_1 : 0 < nn1 → w.heap.size ≤ g5_1 := fun h => Nat.le_trans B.size (S5_1.2.1 h).2.1
  have lt9 : 0 < nn0 → 0 < nn1 → g5_0 ≠ g5_1 := fun h h2 => apart_blocks (S5_0.2.1 h).1 (S5_1.2.1 h2).1 hap
  clear hap
  replace P0 := P0.below hb
  replace R50 := R50.below hb
  replace R51 := R51.below hb
  replace B := nxt B hb
  clear hb
  clear R50
  clear R51
  go_wp2_with (first
    | (refine wpList_load_box ((P0).alloc (.cells #[.int .i8 rX, .int .i8 rY, (.slice A5_0 nn0 cap5_0)] 34)) rfl _ _ rfl rfl _ Try.underlying25 rfl (by kernel_rfl) ?_
       have lt10 : w.heap.size < w4.heap.size := P0.lt
       have lt11 : 0 < nn0 → g5_0 < w4.heap.size := fun h => (S5_0.2.1 h).2.2
       have lt12 : 0 < nn1 → g5_1 < w4.heap.size := fun h => (S5_1.2.1 h).2.2
       have O5_0 := Bx.newAt w4 (w4.heap.size) #[.int .i8 rX, .int .i8 rY, (.slice A5_0 nn0 cap5_0)] 34 (by simp)
       replace P0 := P0.alloc (.cells #[.int .i8 rX, .int .i8 rY, (.slice A5_0 nn0 cap5_0)] 34)
       replace S5_0 := S5_0.alloc (.cells #[.int .i8 rX, .int .i8 rY, (.slice A5_0 nn0 cap5_0)] 34)
       replace S5_1 := S5_1.alloc (.cells #[.int .i8 rX, .int .i8 rY, (.slice A5_0 nn0 cap5_0)] 34)
       replace B := al B (.cells #[.int .i8 rX, .int .i8 rY, (.slice A5_0 nn0 cap5_0)] 34)
       obtain ⟨w5, hW⟩ : ∃ W : World, W = (w4.alloc (.cells #[.int .i8 rX, .int .i8 rY, (.slice A5_0 nn0 cap5_0)] 34)) := ⟨_, rfl⟩
       rw [← hW] at P0 S5_0 S5_1 O5_0 B ⊢
       clear hW))
  refine (toSquare_ab X0 Y0 A0 n0 ca0 w.heap.size c0 _ (by omega) B.size (HR0.out.below B)).mono ?_
  rintro e w6 ⟨g70, rfl, hg, hb, R70⟩
  have lt13 : w.heap.size < g70 := Nat.lt_of_lt_of_le P0.lt hg
  have lt14 : 0 < nn0 → g5_0 < g70 := fun h => Nat.lt_of_lt_of_le (S5_0.2.1 h).2.2 hg
  have lt15 : 0 < nn1 → g5_1 < g70 := fun h => Nat.lt_of_lt_of_le (S5_1.2.1 h).2.2 hg
  have lt16 : w4.heap.size < g70 := Nat.lt_of_lt_of_le O5_0.lt hg
  have bzg70 : w.heap.size ≤ g70 := Nat.le_trans B.size hg
  replace P0 := P0.below hb
  replace S5_0 := S5_0.below hb
  replace S5_1 := S5_1.below hb
  replace O5_0 := O5_0.below hb
  replace B := nxt B hb
  clear hb
  clear hg
  go_wp2_with fail
  have lt17 : w.heap.size < w6.heap.size := P0.lt
  have lt18 : 0 < nn0 → g5_0 < w6.heap.size := fun h => (S5_0.2.1 h).2.2
  have lt19 : 0 < nn1 → g5_1 < w6.heap.size := fun h => (S5_1.2.1 h).2.2
  have lt20 : w4.heap.size < w6.heap.size := O5_0.lt
  have lt21 : g70 < w6.heap.size := R70.1
  have U0 := Bx.newAt w6 (w6.heap.size) #[.int .i8 X0, .int .i8 Y0, .slice (some ⟨g70, 0, none⟩) n0 n0] 34 (by simp)
  replace P0 := P0.alloc (.cells #[.int .i8 X0, .int .i8 Y0, .slice (some ⟨g70, 0, none⟩) n0 n0] 34)
  replace S5_0 := S5_0.alloc (.cells #[.int .i8 X0, .int .i8 Y0, .slice (some ⟨g70, 0, none⟩) n0 n0] 34)
  replace S5_1 := S5_1.alloc (.cells #[.int .i8 X0, .int .i8 Y0, .slice (some ⟨g70, 0, none⟩) n0 n0] 34)
  replace O5_0 := O5_0.alloc (.cells #[.int .i8 X0, .int .i8 Y0, .slice (some ⟨g70, 0, none⟩) n0 n0] 34)
  replace R70 := R70.alloc (.cells #[.int .i8 X0, .int .i8 Y0, .slice (some ⟨g70, 0, none⟩) n0 n0] 34)
  replace B := al B (.cells #[.int .i8 X0, .int .i8 Y0, .slice (some ⟨g70, 0, none⟩) n0 n0] 34)
  obtain ⟨w7, hW⟩ : ∃ W : World, W = (w6.alloc (.cells #[.int .i8 X0, .int .i8 Y0, .slice (some ⟨g70, 0, none⟩) n0 n0] 34)) := ⟨_, rfl⟩
  rw [← hW] at P0 S5_0 S5_1 O5_0 R70 U0 B ⊢
  clear hW
  refine (toInt64S_any A1 n1 ca1 w.heap.size c1 _ (by omega) B.size (HR1.out.below B)).mono ?_
  rintro e w8 ⟨g71, rfl, hg, hb, R71⟩
  have lt22 : w.heap.size < g71 := Nat.lt_of_lt_of_le P0.lt hg
  have lt23 : 0 < nn0 → g5_0 < g71 := fun h => Nat.lt_of_lt_of_le (S5_0.2.1 h).2.2 hg
  have lt24 : 0 < nn1 → g5_1 < g71 := fun h => Nat.lt_of_lt_of_le (S5_1.2.1 h).2.2 hg
  have lt25 : w4.heap.size < g71 := Nat.lt_of_lt_of_le O5_0.lt hg
  have lt26 : g70 < g71 := Nat.lt_of_lt_of_le R70.1 hg
  have lt27 : w6.heap.size < g71 := Nat.lt_of_lt_of_le U0.lt hg
  have bzg71 : w.heap.size ≤ g71 := Nat.le_trans B.size hg
  replace P0 := P0.below hb
  replace S5_0 := S5_0.below hb
  replace S5_1 := S5_1.below hb
  replace O5_0 := O5_0.below hb
  replace R70 := R70.below hb
  replace U0 := U0.below hb
  replace B := nxt B hb
  clear hb
  clear hg
  go_wp2_with (refine wpList_load_box U0 rfl _ _ rfl rfl _ Try.underlying34 rfl (by kernel_rfl) ?_)
  refine (HI.out _ g70 g71 B.size R70 R71).mono ?_
  rintro e w9 ⟨hb, v9_0, v9_1, rfl, ⟨A9_0, g9_0, cap9_0, S9_0⟩, ⟨A9_1, g9_1, cap9_1, S9_1⟩, hap⟩
  obtain rfl := S9_0.1
  obtain rfl := S9_1.1
  have lt28 : 0 < nn0 → w.heap.size < g9_0 := fun h2 => Nat.lt_of_lt_of_le P0.lt (S9_0.2.1 h2).2.1
  have lt29 : 0 < nn0 → 0 < nn0 → g5_0 < g9_0 := fun h h2 => Nat.lt_of_lt_of_le (S5_0.2.1 h).2.2 (S9_0.2.1 h2).2.1
  have lt30 : 0 < nn1 → 0 < nn0 → g5_1 < g9_0 := fun h h2 => Nat.lt_of_lt_of_le (S5_1.2.1 h).2.2 (S9_0.2.1 h2).2.1
  have lt31 : 0 < nn0 → w4.heap.size < g9_0 := fun h2 => Nat.lt_of_lt_of_le O5_0.lt (S9_0.2.1 h2).2.1
  have lt32 : 0 < nn0 → g70 < g9_0 := fun h2 => Nat.lt_of_lt_of_le R70.1 (S9_0.2.1 h2).2.1
  have lt33 : 0 < nn0 → w6.heap.size < g9_0 := fun h2 => Nat.lt_of_lt_of_le U0.lt (S9_0.2.1 h2).2.1
  have lt34 : 0 < nn0 → g71 < g9_0 := fun h2 => Nat.lt_of_lt_of_le R71.1 (S9_0.2.1 h2).2.1
  have bzg9_0 : 0 < nn0 → w.heap.size ≤ g9_0 := fun h => Nat.le_trans B.size (S9_0.2.1 h).2.1
  have lt35 : 0 < nn1 → w.heap.size < g9_1 := fun h2 => Nat.lt_of_lt_of_le P0.lt (S9_1.2.1 h2).2.1
  have lt36 : 0 < nn0 → 0 < nn1 → g5_0 < g9_1 := fun h h2 => Nat.lt_of_lt_of_le (S5_0.2.1 h).2.2 (S9_1.2.1 h2).2.1
  have lt37 : 0 < nn1 → 0 < nn1 → g5_1 < g9_1 := fun h h2 => Nat.lt_of_lt_of_le (S5_1.2.1 h).2.2 (S9_1.2.1 h2).2.1
  have lt38 : 0 < nn1 → w4.heap.size < g9_1 := fun h2 => Nat.lt_of_lt_of_le O5_0.lt (S9_1.2.1 h2).2.1
  have lt39 : 0 < nn1 → g70 < g9_1 := fun h2 => Nat.lt_of_lt_of_le R70.1 (S9_1.2.1 h2).2.1
  have lt40 : 0 < nn1 → w6.heap.size < g9_1 := fun h2 => Nat.lt_of_lt_of_le U0.lt (S9_1.2.1 h2).2.1
  have lt41 : 0 < nn1 → g71 < g9_1 := fun h2 => Nat.lt_of_lt_of_le R71.1 (S9_1.2.1 h2).2.1
  have bzg9_1 : 0 < nn1 → w.heap.size ≤ g9_1 := fun h => Nat.le_trans B.size (S9_1.2.1 h).2.1
  have lt42 : 0 < nn0 → 0 < nn1 → g9_0 ≠ g9_1 := fun h h2 => apart_blocks (S9_0.2.1 h).1 (S9_1.2.1 h2).1 hap
  clear hap
  replace P0 := P0.below hb
  replace S5_0 := S5_0.below hb
  replace S5_1 := S5_1.below hb
  replace O5_0 := O5_0.below hb
  replace R70 := R70.below hb
  replace U0 := U0.below hb
  replace R71 := R71.below hb
  replace B := nxt B hb
  clear hb
  go_wp2_with (first
    | (refine wpList_load_box (Bx.newAt w9 (w9.heap.size) #[.int .i8 rX, .int .i8 rY, (.slice A9_0 nn0 cap9_0)] 34 (by simp)) rfl _ _ rfl rfl _ Try.underlying34 rfl (by kernel_rfl) ?_
       have lt43 : w.heap.size < w9.heap.size := P0.lt
       have lt44 : 0 < nn0 → g5_0 < w9.heap.size := fun h => (S5_0.2.1 h).2.2
       have lt45 : 0 < nn1 → g5_1 < w9.heap.size := fun h => (S5_1.2.1 h).2.2
       have lt46 : w4.heap.size < w9.heap.size := O5_0.lt
       have lt47 : g70 < w9.heap.size := R70.1
       have lt48 : w6.heap.size < w9.heap.size := U0.lt
       have lt49 : g71 < w9.heap.size := R71.1
       have lt50 : 0 < nn0 → g9_0 < w9.heap.size := fun h => (S9_0.2.1 h).2.2
       have lt51 : 0 < nn1 → g9_1 < w9.heap.size := fun h => (S9_1.2.1 h).2.2
       have O9_0 := Bx.newAt w9 (w9.heap.size) #[.int .i8 rX, .int .i8 rY, (.slice A9_0 nn0 cap9_0)] 34 (by simp)
       replace P0 := P0.alloc (.cells #[.int .i8 rX, .int .i8 rY, (.slice A9_0 nn0 cap9_0)] 34)
       replace S5_0 := S5_0.alloc (.cells #[.int .i8 rX, .int .i8 rY, (.slice A9_0 nn0 cap9_0)] 34)
       replace S5_1 := S5_1.alloc (.cells #[.int .i8 rX, .int .i8 rY, (.slice A9_0 nn0 cap9_0)] 34)
       replace O5_0 := O5_0.alloc (.cells #[.int .i8 rX, .int .i8 rY, (.slice A9_0 nn0 cap9_0)] 34)
       replace R70 := R70.alloc (.cells #[.int .i8 rX, .int .i8 rY, (.slice A9_0 nn0 cap9_0)] 34)
       replace U0 := U0.alloc (.cells #[.int .i8 rX, .int .i8 rY, (.slice A9_0 nn0 cap9_0)] 34)
       replace R71 := R71.alloc (.cells #[.int .i8 rX, .int .i8 rY, (.slice A9_0 nn0 cap9_0)] 34)
       replace S9_0 := S9_0.alloc (.cells #[.int .i8 rX, .int .i8 rY, (.slice A9_0 nn0 cap9_0)] 34)
       replace S9_1 := S9_1.alloc (.cells #[.int .i8 rX, .int .i8 rY, (.slice A9_0 nn0 cap9_0)] 34)
       replace B := al B (.cells #[.int .i8 rX, .int .i8 rY, (.slice A9_0 nn0 cap9_0)] 34)
       obtain ⟨w10, hW⟩ : ∃ W : World, W = (w9.alloc (.cells #[.int .i8 rX, .int .i8 rY, (.slice A9_0 nn0 cap9_0)] 34)) := ⟨_, rfl⟩
       rw [← hW] at P0 S5_0 S5_1 O5_0 R70 U0 R71 S9_0 S9_1 O9_0 B ⊢
       clear hW)
    | (refine wpList_load_box O5_0 rfl _ _ rfl rfl _ Try.underlying34 rfl (by kernel_rfl) ?_))
  refine (eqSquare_yes rX rY A9_0 A5_0 nn0 nn0 cap9_0 cap5_0 _ ff0 ff0 _ (by omega) (by omega) (Nat.le_refl _) (S9_0.rd8) (S5_0.rd8) ⟨rfl, fun _ _ => rfl⟩).mono ?_
  rintro e w11 ⟨rfl, hb⟩
  replace P0 := P0.below hb
  replace S5_0 := S5_0.below hb
  replace S5_1 := S5_1.below hb
  replace O5_0 := O5_0.below hb
  replace R70 := R70.below hb
  replace U0 := U0.below hb
  replace R71 := R71.below hb
  replace S9_0 := S9_0.below hb
  replace S9_1 := S9_1.below hb
  replace O9_0 := O9_0.below hb
  replace B := nxt B hb
  clear hb
  go_wp2_with fail
  refine (eqSlabS_ab A9_1 A5_1 nn1 nn1 cap9_1 cap5_1 _ ff1 ff1 _ (by omega) (by omega) (Nat.le_refl _) (S9_1.rd8) (S5_1.rd8) ⟨rfl, fun _ _ => rfl⟩).mono ?_
  rintro e w12 ⟨rfl, hb⟩
  replace P0 := P0.below hb
  replace S5_0 := S5_0.below hb
  replace S5_1 := S5_1.below hb
  replace O5_0 := O5_0.below hb
  replace R70 := R70.below hb
  replace U0 := U0.below hb
  replace R71 := R71.below hb
  replace S9_0 := S9_0.below hb
  replace S9_1 := S9_1.below hb
  replace O9_0 := O9_0.below hb
  replace B := nxt B hb
  clear hb
  go_wp2_with fail
  refine wp_region_held_drew (S := (fun w' : World => Bx w' w6.heap.size #[.int .i8 X0, .int .i8 Y0, .slice (some ⟨g70, 0, none⟩) n0 n0] 34 ∧ Bx w' w.heap.size #[.int .i8 X0, .int .i8 Y0, .slice A0 n0 ca0] 25)) (by kernel_rfl) ⟨U0, P0⟩ (fun hHeld => ?_)
  replace P0 := P0.drew
  replace S5_0 := S5_0.drew
  replace S5_1 := S5_1.drew
  replace O5_0 := O5_0.drew
  replace R70 := R70.drew
  replace U0 := U0.drew
  replace R71 := R71.drew
  replace S9_0 := S9_0.drew
  replace S9_1 := S9_1.drew
  replace O9_0 := O9_0.drew
  replace B := B.drew
  obtain ⟨w13, hW⟩ : ∃ W : World, W = w12.drew := ⟨_, rfl⟩
  rw [← hW] at P0 S5_0 S5_1 O5_0 R70 U0 R71 S9_0 S9_1 O9_0 B hHeld ⊢
  clear hW
  refine wpAnyH_take (i := 0) (oi := _) (v := .agg #[.int .i8 X0, .int .i8 Y0, .slice (some ⟨g70, 0, none⟩) n0 n0]) rfl (by kernel_rfl) (by kernel_rfl) (by kernel_rfl) (fun _ _ _ h => h) (yields_box (by kernel_rfl) _ _ rfl w6.heap.size rfl #[.int .i8 X0, .int .i8 Y0, .slice (some ⟨g70, 0, none⟩) n0 n0] 34 (fun _ hS => hS.1) _ Try.underlying34 rfl (by kernel_rfl)) (by assumption) ?_
  try simp only [List.getElem_toArray, List.getElem_cons_zero, List.getElem_cons_succ, Act.put, List.setIfInBounds_toArray, List.set_cons_zero, List.set_cons_succ]
  refine wpAnyH_take (i := 1) (oi := _) (v := .agg #[.int .i8 X0, .int .i8 Y0, .slice A0 n0 ca0]) rfl (by kernel_rfl) (by kernel_rfl) (by kernel_rfl) (fun _ _ _ h => h) (yields_box (by kernel_rfl) _ _ rfl w.heap.size rfl #[.int .i8 X0, .int .i8 Y0, .slice A0 n0 ca0] 25 (fun _ hS => hS.2) _ Try.underlying25 rfl (by kernel_rfl)) (by assumption) ?_
  try simp only [List.getElem_toArray, List.getElem_cons_zero, List.getElem_cons_succ, Act.put, List.setIfInBounds_toArray, List.set_cons_zero, List.set_cons_succ]
  refine wpAnyH_ready (rs := [2]) (by kernel_rfl) (by simp) ?_
  refine AllReadyH.cons (o := _) rfl (fun K hK => ?_) AllReadyH.nil
  go_simp
  refine (toSquare_ab X0 Y0 A0 n0 ca0 w.heap.size c0 _ (by omega) B.size (HR0.out.below B)).mono ?_
  rintro e w14 ⟨gc0, rfl, hg, hb, Rc0⟩
  replace P0 := P0.below hb
  replace S5_0 := S5_0.below hb
  replace S5_1 := S5_1.below hb
  replace O5_0 := O5_0.below hb
  replace R70 := R70.below hb
  replace U0 := U0.below hb
  replace R71 := R71.below hb
  replace S9_0 := S9_0.below hb
  replace S9_1 := S9_1.below hb
  replace O9_0 := O9_0.below hb
  replace B := nxt B hb
  clear hb
  clear hg
  refine hK.out _ _ ⟨U0, P0⟩ (fun hHeld => ?_)
  clear hK K
  try simp only [List.getElem_toArray, List.getElem_cons_zero, List.getElem_cons_succ, Act.put, List.setIfInBounds_toArray, List.set_cons_zero, List.set_cons_succ]
  refine wpAnyH_ready (rs := [3]) (by kernel_rfl) (by simp) ?_
  refine AllReadyH.cons (o := _) rfl (fun K hK => ?_) AllReadyH.nil
  go_simp
  refine (eqSquare_yes X0 Y0 (some ⟨g70, 0, none⟩) (some ⟨gc0, 0, none⟩) n0 n0 n0 n0 _ c0 c0 _ (by omega) (by omega) (Nat.le_refl _) R70.rd Rc0.rd ⟨rfl, fun _ _ => rfl⟩).mono ?_
  rintro e w15 ⟨rfl, hb⟩
  replace P0 := P0.below hb
  replace S5_0 := S5_0.below hb
  replace S5_1 := S5_1.below hb
  replace O5_0 := O5_0.below hb
  replace R70 := R70.below hb
  replace U0 := U0.below hb
  replace R71 := R71.below hb
  replace S9_0 := S9_0.below hb
  replace S9_1 := S9_1.below hb
  replace O9_0 := O9_0.below hb
  replace Rc0 := Rc0.below hb
  replace B := nxt B hb
  clear hb
  refine hK.out _ _ ⟨U0, P0⟩ (fun hHeld => ?_)
  clear hK K
  try simp only [List.getElem_toArray, List.getElem_cons_zero, List.getElem_cons_succ, Act.put, List.setIfInBounds_toArray, List.set_cons_zero, List.set_cons_succ]
  refine wpAnyH_take (i := 4) (oi := _) (v := ?_) rfl (by kernel_rfl) (by kernel_rfl) (by kernel_rfl) (fun _ _ _ h => h) (Or.inl ⟨by kernel_rfl, ?_⟩) (by assumption) ?_
  rotate_left
  · intro w hSw; (try dsimp only at hSw); go_simp; first | done | with_reducible rfl
  try simp only [List.getElem_toArray, List.getElem_cons_zero, List.getElem_cons_succ, Act.put, List.setIfInBounds_toArray, List.set_cons_zero, List.set_cons_succ]
  refine wpAnyH_done (by kernel_rfl) ?_ _
  clear Rc0
  go_wp2_with fail
  refine (toInt64S_any A1 n1 ca1 w.heap.size c1 _ (by omega) B.size (HR1.out.below B)).mono ?_
  rintro e w16 ⟨gc1, rfl, hg, hb, Rc1⟩
  have lt52 : w.heap.size < gc1 := Nat.lt_of_lt_of_le P0.lt hg
  have lt53 : 0 < nn0 → g5_0 < gc1 := fun h => Nat.lt_of_lt_of_le (S5_0.2.1 h).2.2 hg
  have lt54 : 0 < nn1 → g5_1 < gc1 := fun h => Nat.lt_of_lt_of_le (S5_1.2.1 h).2.2 hg
  have lt55 : w4.heap.size < gc1 := Nat.lt_of_lt_of_le O5_0.lt hg
  have lt56 : g70 < gc1 := Nat.lt_of_lt_of_le R70.1 hg
  have lt57 : w6.heap.size < gc1 := Nat.lt_of_lt_of_le U0.lt hg
  have lt58 : g71 < gc1 := Nat.lt_of_lt_of_le R71.1 hg
  have lt59 : 0 < nn0 → g9_0 < gc1 := fun h => Nat.lt_of_lt_of_le (S9_0.2.1 h).2.2 hg
  have lt60 : 0 < nn1 → g9_1 < gc1 := fun h => Nat.lt_of_lt_of_le (S9_1.2.1 h).2.2 hg
  have lt61 : w9.heap.size < gc1 := Nat.lt_of_lt_of_le O9_0.lt hg
  have bzgc1 : w.heap.size ≤ gc1 := Nat.le_trans B.size hg
  replace P0 := P0.below hb
  replace S5_0 := S5_0.below hb
  replace S5_1 := S5_1.below hb
  replace O5_0 := O5_0.below hb
  replace R70 := R70.below hb
  replace U0 := U0.below hb
  replace R71 := R71.below hb
  replace S9_0 := S9_0.below hb
  replace S9_1 := S9_1.below hb
  replace O9_0 := O9_0.below hb
  replace B := nxt B hb
  clear hb
  clear hg
  go_wp2_with fail
  refine (eqInt64S_any (some ⟨g71, 0, none⟩) (some ⟨gc1, 0, none⟩) n1 n1 n1 n1 _ c1 c1 _ (by omega) (by omega) (Nat.le_refl _) R71.rd Rc1.rd ⟨rfl, fun _ _ => rfl⟩).mono ?_
  rintro e w17 ⟨rfl, hb⟩
  replace P0 := P0.below hb
  replace S5_0 := S5_0.below hb
  replace S5_1 := S5_1.below hb
  replace O5_0 := O5_0.below hb
  replace R70 := R70.below hb
  replace U0 := U0.below hb
  replace R71 := R71.below hb
  replace S9_0 := S9_0.below hb
  replace S9_1 := S9_1.below hb
  replace O9_0 := O9_0.below hb
  replace Rc1 := Rc1.below hb
  replace B := nxt B hb
  clear hb
  clear Rc1
  go_wp2_with (refine wpList_load_box U0 rfl _ _ rfl rfl _ Try.underlying34 rfl (by kernel_rfl) ?_)
  refine (markSquare_ab X0 Y0 (some ⟨g70, 0, none⟩) g70 0 n0 n0 c0 (1) _ (by omega) (by omega) (by omega) (fun _ => rfl) (fun _ => R70.1) R70.2).mono ?_
  rintro e w18 ⟨rfl, hgr, _⟩
  replace P0 := P0.of_block (blockG hgr P0.lt (fun hm => by have := lt13; omega))
  replace S5_0 := S5_0.kept hgr.size (fun h => blockG hgr (S5_0.2.1 h).2.2 (fun hm => by have := (lt14 h); omega))
  replace S5_1 := S5_1.kept hgr.size (fun h => blockG hgr (S5_1.2.1 h).2.2 (fun hm => by have := (lt15 h); omega))
  replace O5_0 := O5_0.of_block (blockG hgr O5_0.lt (fun hm => by have := lt16; omega))
  replace U0 := U0.of_block (blockG hgr U0.lt (fun hm => by have := lt21; omega))
  replace R71 := R71.kept hgr.size (blockG hgr R71.1 (fun hm => by have := lt26; omega))
  replace S9_0 := S9_0.kept hgr.size (fun h => blockG hgr (S9_0.2.1 h).2.2 (fun hm => by have := (lt32 h); omega))
  replace S9_1 := S9_1.kept hgr.size (fun h => blockG hgr (S9_1.2.1 h).2.2 (fun hm => by have := (lt39 h); omega))
  replace O9_0 := O9_0.of_block (blockG hgr O9_0.lt (fun hm => by have := lt47; omega))
  replace B := below_rowOf B hgr B.size (fun _ => bzg70)
  clear hgr
  clear R70
  have hyy0 : 0 ≤ 1 + 4 * (n0 : Int) := by omega
  go_wp2_with fail
  refine (markInt64S_any (some ⟨g71, 0, none⟩) g71 0 n1 n1 c1 (1 + 4 * (n0 : Int)) _ (by omega) (by omega) (by omega) (fun _ => rfl) R71.2).mono ?_
  rintro e w19 ⟨rfl, hgr, _⟩
  replace P0 := P0.of_block (blockG hgr P0.lt (fun hm => by have := lt22; omega))
  replace S5_0 := S5_0.kept hgr.size (fun h => blockG hgr (S5_0.2.1 h).2.2 (fun hm => by have := (lt23 h); omega))
  replace S5_1 := S5_1.kept hgr.size (fun h => blockG hgr (S5_1.2.1 h).2.2 (fun hm => by have := (lt24 h); omega))
  replace O5_0 := O5_0.of_block (blockG hgr O5_0.lt (fun hm => by have := lt25; omega))
  replace U0 := U0.of_block (blockG hgr U0.lt (fun hm => by have := lt27; omega))
  replace S9_0 := S9_0.kept hgr.size (fun h => blockG hgr (S9_0.2.1 h).2.2 (fun hm => by have := (lt34 h); omega))
  replace S9_1 := S9_1.kept hgr.size (fun h => blockG hgr (S9_1.2.1 h).2.2 (fun hm => by have := (lt41 h); omega))
  replace O9_0 := O9_0.of_block (blockG hgr O9_0.lt (fun hm => by have := lt49; omega))
  replace B := below_rowOf B hgr B.size (fun _ => bzg71)
  clear hgr
  clear R71
  have hyy1 : 0 ≤ 1 + 4 * (n0 : Int) + (n1 : Int) := by omega
  go_wp2_with (first
    | (refine wpList_load_boxG O9_0 (by kernel_rfl) _ _ rfl rfl _ Try.underlying34 rfl (by kernel_rfl) ?_)
    | (refine wpList_load_boxG O5_0 (by kernel_rfl) _ _ rfl rfl _ Try.underlying34 rfl (by kernel_rfl) ?_))
  refine (eqSquare_yes rX rY A9_0 A5_0 nn0 nn0 cap9_0 cap5_0 _ ff0 ff0 _ (by omega) (by omega) (Nat.le_refl _) (S9_0.rd8) (S5_0.rd8) ⟨rfl, fun _ _ => rfl⟩).mono ?_
  rintro e w20 ⟨rfl, hb⟩
  replace P0 := P0.below hb
  replace S5_0 := S5_0.below hb
  replace S5_1 := S5_1.below hb
  replace O5_0 := O5_0.below hb
  replace U0 := U0.below hb
  replace S9_0 := S9_0.below hb
  replace S9_1 := S9_1.below hb
  replace O9_0 := O9_0.below hb
  replace B := nxt B hb
  clear hb
  go_wp2_with fail
  refine (eqSlabS_ab A9_1 A5_1 nn1 nn1 cap9_1 cap5_1 _ ff1 ff1 _ (by omega) (by omega) (Nat.le_refl _) (S9_1.rd8) (S5_1.rd8) ⟨rfl, fun _ _ => rfl⟩).mono ?_
  rintro e w21 ⟨rfl, hb⟩
  replace P0 := P0.below hb
  replace S5_0 := S5_0.below hb
  replace S5_1 := S5_1.below hb
  replace O5_0 := O5_0.below hb
  replace U0 := U0.below hb
  replace S9_0 := S9_0.below hb
  replace S9_1 := S9_1.below hb
  replace O9_0 := O9_0.below hb
  replace B := nxt B hb
  clear hb
  have hkk : (1 + 4 * (nn0 : Int) + 4 * (nn1 : Int) != 1 + 4 * (nn0 : Int) + 4 * (nn1 : Int)) = false := by simp
  go_wp2_with (refine wpList_load_box O9_0 rfl _ _ rfl rfl _ Try.underlying34 rfl (by kernel_rfl) ?_)
  have hk90 : 0 ≤ 1 + 4 * (nn0 : Int) := by omega
  refine (markSquare_ab rX rY A9_0 g9_0 0 nn0 cap9_0 ff0 (1) _ (by omega) (by omega) (by omega) (fun h => (S9_0.2.1 h).1) (fun h => (S9_0.2.1 h).2.2) S9_0.2.2).mono ?_
  rintro e w22 ⟨rfl, hgr, ho⟩
  replace P0 := P0.of_block (blockG hgr P0.lt (fun hm => by have := (lt28 hm); omega))
  replace S5_0 := S5_0.kept hgr.size (fun h => blockG hgr (S5_0.2.1 h).2.2 (fun hm => by have := (lt29 hm hm); omega))
  replace S5_1 := S5_1.kept hgr.size (fun h => blockG hgr (S5_1.2.1 h).2.2 (fun hm => by have := (lt30 h hm); omega))
  replace O5_0 := O5_0.of_block (blockG hgr O5_0.lt (fun hm => by have := (lt31 hm); omega))
  replace U0 := U0.of_block (blockG hgr U0.lt (fun hm => by have := (lt33 hm); omega))
  replace S9_1 := S9_1.kept hgr.size (fun h => blockG hgr (S9_1.2.1 h).2.2 (fun hm => by have := (lt42 hm h); omega))
  replace O9_0 := O9_0.of_block (blockG hgr O9_0.lt (fun hm => by have := (lt50 hm); omega))
  replace S9_0 := S9_0.marked hgr.size (by first | exact ho | simpa using ho)
  replace B := below_rowOf B hgr B.size bzg9_0
  clear hgr ho
  go_wp2_with fail
  have hk91 : 0 ≤ 1 + 4 * (nn0 : Int) + 4 * (nn1 : Int) := by omega
  refine (markSlabS_ab A9_1 g9_1 0 nn1 cap9_1 ff1 (1 + 4 * (nn0 : Int)) _ (by omega) (by omega) (by omega) (fun h => (S9_1.2.1 h).1) S9_1.2.2).mono ?_
  rintro e w23 ⟨rfl, hgr, ho⟩
  replace P0 := P0.of_block (blockG hgr P0.lt (fun hm => by have := (lt35 hm); omega))
  replace S5_0 := S5_0.kept hgr.size (fun h => blockG hgr (S5_0.2.1 h).2.2 (fun hm => by have := (lt36 h hm); omega))
  replace S5_1 := S5_1.kept hgr.size (fun h => blockG hgr (S5_1.2.1 h).2.2 (fun hm => by have := (lt37 hm hm); omega))
  replace O5_0 := O5_0.of_block (blockG hgr O5_0.lt (fun hm => by have := (lt38 hm); omega))
  replace U0 := U0.of_block (blockG hgr U0.lt (fun hm => by have := (lt40 hm); omega))
  replace S9_0 := S9_0.kept hgr.size (fun h => blockG hgr (S9_0.2.1 h).2.2 (fun hm => by have := (lt42 h hm); omega))
  replace O9_0 := O9_0.of_block (blockG hgr O9_0.lt (fun hm => by have := (lt51 hm); omega))
  replace S9_1 := S9_1.marked hgr.size (by first | exact ho | simpa using ho)
  replace B := below_rowOf B hgr B.size bzg9_1
  clear hgr ho
  go_wp2_with (refine wpList_load_box O9_0 rfl _ _ rfl rfl _ Try.underlying34 rfl (by kernel_rfl) ?_)
  refine (heldSquare_any rX rY A9_0 g9_0 0 nn0 cap9_0 (1) _ (by omega) (by omega) (by omega) (fun h => (S9_0.2.1 h).1) S9_0.2.2 (fun h => (S9_0.2.1 h).2.2)).mono ?_
  rintro e w24 ⟨rfl, hb⟩
  replace P0 := P0.below hb
  replace S5_0 := S5_0.below hb
  replace S5_1 := S5_1.below hb
  replace O5_0 := O5_0.below hb
  replace U0 := U0.below hb
  replace S9_0 := S9_0.below hb
  replace S9_1 := S9_1.below hb
  replace O9_0 := O9_0.below hb
  replace B := nxt B hb
  clear hb
  go_wp2_with fail
  refine (heldSlabS_any A9_1 g9_1 0 nn1 cap9_1 (1 + 4 * (nn0 : Int)) _ (by omega) (by omega) (by omega) (fun h => (S9_1.2.1 h).1) S9_1.2.2).mono ?_
  rintro e w25 ⟨rfl, rfl⟩
  go_wp2_with (refine wpList_load_box P0 rfl _ _ rfl rfl _ Try.underlying25 rfl (by kernel_rfl) ?_)
  refine (toSquare_ab X0 Y0 A0 n0 ca0 w.heap.size c0 _ (by omega) B.size (HR0.out.below B)).mono ?_
  rintro e w26 ⟨g190, rfl, hg, hb, R190⟩
  have lt62 : w.heap.size < g190 := Nat.lt_of_lt_of_le P0.lt hg
  have lt63 : 0 < nn0 → g5_0 < g190 := fun h => Nat.lt_of_lt_of_le (S5_0.2.1 h).2.2 hg
  have lt64 : 0 < nn1 → g5_1 < g190 := fun h => Nat.lt_of_lt_of_le (S5_1.2.1 h).2.2 hg
  have lt65 : w4.heap.size < g190 := Nat.lt_of_lt_of_le O5_0.lt hg
  have lt66 : w6.heap.size < g190 := Nat.lt_of_lt_of_le U0.lt hg
  have lt67 : 0 < nn0 → g9_0 < g190 := fun h => Nat.lt_of_lt_of_le (S9_0.2.1 h).2.2 hg
  have lt68 : 0 < nn1 → g9_1 < g190 := fun h => Nat.lt_of_lt_of_le (S9_1.2.1 h).2.2 hg
  have lt69 : w9.heap.size < g190 := Nat.lt_of_lt_of_le O9_0.lt hg
  have bzg190 : w.heap.size ≤ g190 := Nat.le_trans B.size hg
  replace P0 := P0.below hb
  replace S5_0 := S5_0.below hb
  replace S5_1 := S5_1.below hb
  replace O5_0 := O5_0.below hb
  replace U0 := U0.below hb
  replace S9_0 := S9_0.below hb
  replace S9_1 := S9_1.below hb
  replace O9_0 := O9_0.below hb
  replace B := nxt B hb
  clear hb
  clear hg
  go_wp2_with fail
  refine (toInt64S_any A1 n1 ca1 w.heap.size c1 _ (by omega) B.size (HR1.out.below B)).mono ?_
  rintro e w27 ⟨g191, rfl, hg, hb, R191⟩
  have lt70 : w.heap.size < g191 := Nat.lt_of_lt_of_le P0.lt hg
  have lt71 : 0 < nn0 → g5_0 < g191 := fun h => Nat.lt_of_lt_of_le (S5_0.2.1 h).2.2 hg
  have lt72 : 0 < nn1 → g5_1 < g191 := fun h => Nat.lt_of_lt_of_le (S5_1.2.1 h).2.2 hg
  have lt73 : w4.heap.size < g191 := Nat.lt_of_lt_of_le O5_0.lt hg
  have lt74 : w6.heap.size < g191 := Nat.lt_of_lt_of_le U0.lt hg
  have lt75 : 0 < nn0 → g9_0 < g191 := fun h => Nat.lt_of_lt_of_le (S9_0.2.1 h).2.2 hg
  have lt76 : 0 < nn1 → g9_1 < g191 := fun h => Nat.lt_of_lt_of_le (S9_1.2.1 h).2.2 hg
  have lt77 : w9.heap.size < g191 := Nat.lt_of_lt_of_le O9_0.lt hg
  have lt78 : g190 < g191 := Nat.lt_of_lt_of_le R190.1 hg
  have bzg191 : w.heap.size ≤ g191 := Nat.le_trans B.size hg
  replace P0 := P0.below hb
  replace S5_0 := S5_0.below hb
  replace S5_1 := S5_1.below hb
  replace O5_0 := O5_0.below hb
  replace U0 := U0.below hb
  replace S9_0 := S9_0.below hb
  replace S9_1 := S9_1.below hb
  replace O9_0 := O9_0.below hb
  replace R190 := R190.below hb
  replace B := nxt B hb
  clear hb
  clear hg
  go_wp2_with fail
  refine (HI.out _ g190 g191 B.size R190 R191).mono ?_
  rintro e w28 ⟨hb, v19_0, v19_1, rfl, ⟨A19_0, g19_0, cap19_0, S19_0⟩, ⟨A19_1, g19_1, cap19_1, S19_1⟩, hap⟩
  obtain rfl := S19_0.1
  obtain rfl := S19_1.1
  have lt79 : 0 < nn0 → w.heap.size < g19_0 := fun h2 => Nat.lt_of_lt_of_le P0.lt (S19_0.2.1 h2).2.1
  have lt80 : 0 < nn0 → 0 < nn0 → g5_0 < g19_0 := fun h h2 => Nat.lt_of_lt_of_le (S5_0.2.1 h).2.2 (S19_0.2.1 h2).2.1
  have lt81 : 0 < nn1 → 0 < nn0 → g5_1 < g19_0 := fun h h2 => Nat.lt_of_lt_of_le (S5_1.2.1 h).2.2 (S19_0.2.1 h2).2.1
  have lt82 : 0 < nn0 → w4.heap.size < g19_0 := fun h2 => Nat.lt_of_lt_of_le O5_0.lt (S19_0.2.1 h2).2.1
  have lt83 : 0 < nn0 → w6.heap.size < g19_0 := fun h2 => Nat.lt_of_lt_of_le U0.lt (S19_0.2.1 h2).2.1
  have lt84 : 0 < nn0 → 0 < nn0 → g9_0 < g19_0 := fun h h2 => Nat.lt_of_lt_of_le (S9_0.2.1 h).2.2 (S19_0.2.1 h2).2.1
  have lt85 : 0 < nn1 → 0 < nn0 → g9_1 < g19_0 := fun h h2 => Nat.lt_of_lt_of_le (S9_1.2.1 h).2.2 (S19_0.2.1 h2).2.1
  have lt86 : 0 < nn0 → w9.heap.size < g19_0 := fun h2 => Nat.lt_of_lt_of_le O9_0.lt (S19_0.2.1 h2).2.1
  have lt87 : 0 < nn0 → g190 < g19_0 := fun h2 => Nat.lt_of_lt_of_le R190.1 (S19_0.2.1 h2).2.1
  have lt88 : 0 < nn0 → g191 < g19_0 := fun h2 => Nat.lt_of_lt_of_le R191.1 (S19_0.2.1 h2).2.1
  have bzg19_0 : 0 < nn0 → w.heap.size ≤ g19_0 := fun h => Nat.le_trans B.size (S19_0.2.1 h).2.1
  have lt89 : 0 < nn1 → w.heap.size < g19_1 := fun h2 => Nat.lt_of_lt_of_le P0.lt (S19_1.2.1 h2).2.1
  have lt90 : 0 < nn0 → 0 < nn1 → g5_0 < g19_1 := fun h h2 => Nat.lt_of_lt_of_le (S5_0.2.1 h).2.2 (S19_1.2.1 h2).2.1
  have lt91 : 0 < nn1 → 0 < nn1 → g5_1 < g19_1 := fun h h2 => Nat.lt_of_lt_of_le (S5_1.2.1 h).2.2 (S19_1.2.1 h2).2.1
  have lt92 : 0 < nn1 → w4.heap.size < g19_1 := fun h2 => Nat.lt_of_lt_of_le O5_0.lt (S19_1.2.1 h2).2.1
  have lt93 : 0 < nn1 → w6.heap.size < g19_1 := fun h2 => Nat.lt_of_lt_of_le U0.lt (S19_1.2.1 h2).2.1
  have lt94 : 0 < nn0 → 0 < nn1 → g9_0 < g19_1 := fun h h2 => Nat.lt_of_lt_of_le (S9_0.2.1 h).2.2 (S19_1.2.1 h2).2.1
  have lt95 : 0 < nn1 → 0 < nn1 → g9_1 < g19_1 := fun h h2 => Nat.lt_of_lt_of_le (S9_1.2.1 h).2.2 (S19_1.2.1 h2).2.1
  have lt96 : 0 < nn1 → w9.heap.size < g19_1 := fun h2 => Nat.lt_of_lt_of_le O9_0.lt (S19_1.2.1 h2).2.1
  have lt97 : 0 < nn1 → g190 < g19_1 := fun h2 => Nat.lt_of_lt_of_le R190.1 (S19_1.2.1 h2).2.1
  have lt98 : 0 < nn1 → g191 < g19_1 := fun h2 => Nat.lt_of_lt_of_le R191.1 (S19_1.2.1 h2).2.1
  have bzg19_1 : 0 < nn1 → w.heap.size ≤ g19_1 := fun h => Nat.le_trans B.size (S19_1.2.1 h).2.1
  have lt99 : 0 < nn0 → 0 < nn1 → g19_0 ≠ g19_1 := fun h h2 => apart_blocks (S19_0.2.1 h).1 (S19_1.2.1 h2).1 hap
  clear hap
  replace P0 := P0.below hb
  replace S5_0 := S5_0.below hb
  replace S5_1 := S5_1.below hb
  replace O5_0 := O5_0.below hb
  replace U0 := U0.below hb
  replace S9_0 := S9_0.below hb
  replace S9_1 := S9_1.below hb
  replace O9_0 := O9_0.below hb
  replace R190 := R190.below hb
  replace R191 := R191.below hb
  replace B := nxt B hb
  clear hb
  clear R190
  clear R191
  go_wp2_with (first
    | (refine wpList_load_box (Bx.newAt w28 (w28.heap.size) #[.int .i8 rX, .int .i8 rY, (.slice A19_0 nn0 cap19_0)] 34 (by simp)) rfl _ _ rfl rfl _ Try.underlying34 rfl (by kernel_rfl) ?_
       have lt100 : w.heap.size < w28.heap.size := P0.lt
       have lt101 : 0 < nn0 → g5_0 < w28.heap.size := fun h => (S5_0.2.1 h).2.2
       have lt102 : 0 < nn1 → g5_1 < w28.heap.size := fun h => (S5_1.2.1 h).2.2
       have lt103 : w4.heap.size < w28.heap.size := O5_0.lt
       have lt104 : w6.heap.size < w28.heap.size := U0.lt
       have lt105 : 0 < nn0 → g9_0 < w28.heap.size := fun h => (S9_0.2.1 h).2.2
       have lt106 : 0 < nn1 → g9_1 < w28.heap.size := fun h => (S9_1.2.1 h).2.2
       have lt107 : w9.heap.size < w28.heap.size := O9_0.lt
       have lt108 : 0 < nn0 → g19_0 < w28.heap.size := fun h => (S19_0.2.1 h).2.2
       have lt109 : 0 < nn1 → g19_1 < w28.heap.size := fun h => (S19_1.2.1 h).2.2
       have O19_0 := Bx.newAt w28 (w28.heap.size) #[.int .i8 rX, .int .i8 rY, (.slice A19_0 nn0 cap19_0)] 34 (by simp)
       replace P0 := P0.alloc (.cells #[.int .i8 rX, .int .i8 rY, (.slice A19_0 nn0 cap19_0)] 34)
       replace S5_0 := S5_0.alloc (.cells #[.int .i8 rX, .int .i8 rY, (.slice A19_0 nn0 cap19_0)] 34)
       replace S5_1 := S5_1.alloc (.cells #[.int .i8 rX, .int .i8 rY, (.slice A19_0 nn0 cap19_0)] 34)
       replace O5_0 := O5_0.alloc (.cells #[.int .i8 rX, .int .i8 rY, (.slice A19_0 nn0 cap19_0)] 34)
       replace U0 := U0.alloc (.cells #[.int .i8 rX, .int .i8 rY, (.slice A19_0 nn0 cap19_0)] 34)
       replace S9_0 := S9_0.alloc (.cells #[.int .i8 rX, .int .i8 rY, (.slice A19_0 nn0 cap19_0)] 34)
       replace S9_1 := S9_1.alloc (.cells #[.int .i8 rX, .int .i8 rY, (.slice A19_0 nn0 cap19_0)] 34)
       replace O9_0 := O9_0.alloc (.cells #[.int .i8 rX, .int .i8 rY, (.slice A19_0 nn0 cap19_0)] 34)
       replace S19_0 := S19_0.alloc (.cells #[.int .i8 rX, .int .i8 rY, (.slice A19_0 nn0 cap19_0)] 34)
       replace S19_1 := S19_1.alloc (.cells #[.int .i8 rX, .int .i8 rY, (.slice A19_0 nn0 cap19_0)] 34)
       replace B := al B (.cells #[.int .i8 rX, .int .i8 rY, (.slice A19_0 nn0 cap19_0)] 34)
       obtain ⟨w29, hW⟩ : ∃ W : World, W = (w28.alloc (.cells #[.int .i8 rX, .int .i8 rY, (.slice A19_0 nn0 cap19_0)] 34)) := ⟨_, rfl⟩
       rw [← hW] at P0 S5_0 S5_1 O5_0 U0 S9_0 S9_1 O9_0 S19_0 S19_1 O19_0 B ⊢
       clear hW)
    | (refine wpList_load_box O5_0 rfl _ _ rfl rfl _ Try.underlying34 rfl (by kernel_rfl) ?_))
  refine (eqSquare_yes rX rY A19_0 A5_0 nn0 nn0 cap19_0 cap5_0 _ ff0 ff0 _ (by omega) (by omega) (Nat.le_refl _) (S19_0.rd8) (S5_0.rd8) ⟨rfl, fun _ _ => rfl⟩).mono ?_
  rintro e w30 ⟨rfl, hb⟩
  replace P0 := P0.below hb
  replace S5_0 := S5_0.below hb
  replace S5_1 := S5_1.below hb
  replace O5_0 := O5_0.below hb
  replace U0 := U0.below hb
  replace S9_0 := S9_0.below hb
  replace S9_1 := S9_1.below hb
  replace O9_0 := O9_0.below hb
  replace S19_0 := S19_0.below hb
  replace S19_1 := S19_1.below hb
  replace O19_0 := O19_0.below hb
  replace B := nxt B hb
  clear hb
  go_wp2_with fail
  refine (eqSlabS_ab A19_1 A5_1 nn1 nn1 cap19_1 cap5_1 _ ff1 ff1 _ (by omega) (by omega) (Nat.le_refl _) (S19_1.rd8) (S5_1.rd8) ⟨rfl, fun _ _ => rfl⟩).mono ?_
  rintro e w31 ⟨rfl, hb⟩
  replace P0 := P0.below hb
  replace S5_0 := S5_0.below hb
  replace S5_1 := S5_1.below hb
  replace O5_0 := O5_0.below hb
  replace U0 := U0.below hb
  replace S9_0 := S9_0.below hb
  replace S9_1 := S9_1.below hb
  replace O9_0 := O9_0.below hb
  replace S19_0 := S19_0.below hb
  replace S19_1 := S19_1.below hb
  replace O19_0 := O19_0.below hb
  replace B := nxt B hb
  clear hb
  go_wp2_with (refine wpList_load_box O9_0 rfl _ _ rfl rfl _ Try.underlying34 rfl (by kernel_rfl) ?_)
  refine (heldSquare_any rX rY A9_0 g9_0 0 nn0 cap9_0 (1) _ (by omega) (by omega) (by omega) (fun h => (S9_0.2.1 h).1) S9_0.2.2 (fun h => (S9_0.2.1 h).2.2)).mono ?_
  rintro e w32 ⟨rfl, hb⟩
  replace P0 := P0.below hb
  replace S5_0 := S5_0.below hb
  replace S5_1 := S5_1.below hb
  replace O5_0 := O5_0.below hb
  replace U0 := U0.below hb
  replace S9_0 := S9_0.below hb
  replace S9_1 := S9_1.below hb
  replace O9_0 := O9_0.below hb
  replace S19_0 := S19_0.below hb
  replace S19_1 := S19_1.below hb
  replace O19_0 := O19_0.below hb
  replace B := nxt B hb
  clear hb
  go_wp2_with fail
  refine (heldSlabS_any A9_1 g9_1 0 nn1 cap9_1 (1 + 4 * (nn0 : Int)) _ (by omega) (by omega) (by omega) (fun h => (S9_1.2.1 h).1) S9_1.2.2).mono ?_
  rintro e w33 ⟨rfl, rfl⟩
  go_wp2_with fail
  go_ret
  exact ⟨rfl, B⟩

theorem big1 (X0 Y0 : Int) (A0 : Option Addr) (n0 ca0 : Nat) (c0 : Nat → Int) (A1 : Option Addr) (n1 ca1 : Nat) (c1 : Nat → Int) (w : World)  (hn : 1048576 < n1) (hm : n1 ≤ 9223372036854775807) :
    Calls Try.prog 4 #[.agg #[.int .i8 X0, .int .i8 Y0, .slice A0 n0 ca0], .slice A1 n1 ca1] w fun e w' => e = .returned (.bool true) ∧ Below w.heap.size w w' := by
  have B : Below w.heap.size w w := Below.refl _ _
  go_enter Try.func4, Try.ntmps4
  have P0 := (Bx.new w #[.int .i8 X0, .int .i8 Y0, .slice A0 n0 ca0] 25)
  replace B := (al B (Obj.cells #[.int .i8 X0, .int .i8 Y0, .slice A0 n0 ca0] 25))
  go_wp2_with fail
  go_ret
  exact ⟨rfl, B⟩

theorem big0 (X0 Y0 : Int) (A0 : Option Addr) (n0 ca0 : Nat) (c0 : Nat → Int) (A1 : Option Addr) (n1 ca1 : Nat) (c1 : Nat → Int) (w : World) (hn1 : n1 ≤ 1048576) (hn : 1048576 < n0) (hm : n0 ≤ 9223372036854775807) :
    Calls Try.prog 4 #[.agg #[.int .i8 X0, .int .i8 Y0, .slice A0 n0 ca0], .slice A1 n1 ca1] w fun e w' => e = .returned (.bool true) ∧ Below w.heap.size w w' := by
  have B : Below w.heap.size w w := Below.refl _ _
  go_enter Try.func4, Try.ntmps4
  have P0 := (Bx.new w #[.int .i8 X0, .int .i8 Y0, .slice A0 n0 ca0] 25)
  replace B := (al B (Obj.cells #[.int .i8 X0, .int .i8 Y0, .slice A0 n0 ca0] 25))
  go_wp2_with (refine wpList_load_box P0 rfl _ _ rfl rfl _ Try.underlying25 rfl (by kernel_rfl) ?_)
  refine (szSquare_big X0 Y0 (1048576) A0 n0 ca0 _ (by omega) (by omega) (by omega) hm).mono ?_
  rintro e w34 ⟨rfl, hb⟩
  replace P0 := P0.below hb
  replace B := nxt B hb
  clear hb
  go_wp2_with fail
  go_ret
  exact ⟨rfl, B⟩

theorem walk (X0 Y0 : Int) (A0 : Option Addr) (n0 ca0 : Nat) (c0 : Nat → Int) (A1 : Option Addr) (n1 ca1 : Nat) (c1 : Nat → Int) (w : World) (bX0 : -128 ≤ X0 ∧ X0 ≤ 127) (bY0 : -128 ≤ Y0 ∧ Y0 ≤ 127) (hm0 : n0 ≤ 9223372036854775807) (hc0 : ∀ j, -128 ≤ c0 j ∧ c0 j ≤ 127) (hm1 : n1 ≤ 9223372036854775807) (hc1 : ∀ j, (Lit.int .i64 (c1 j)).wf = true)
    (hr0 : Rd8 w w.heap.size A0 (4 * n0) c0) (hr1 : RdK .i64 w w.heap.size A1 n1 c1) :
    Calls Try.prog 4 #[.agg #[.int .i8 X0, .int .i8 Y0, .slice A0 n0 ca0], .slice A1 n1 ca1] w fun e w' => e = .returned (.bool true) ∧ Below w.heap.size w w' := by
  by_cases hn1 : 1048576 < n1
  · exact big1 X0 Y0 A0 n0 ca0 c0 A1 n1 ca1 c1 w  hn1 hm1
  by_cases hn0 : 1048576 < n0
  · exact big0 X0 Y0 A0 n0 ca0 c0 A1 n1 ca1 c1 w (by omega) hn0 hm0
  obtain ⟨rX, rY, z2, nn0, ff0, nn1, ff1, hnn0, hnn1, hS, hI⟩ := both X0 Y0 n0 c0 n1 c1 bX0 bY0 hc0 (by omega) hc1 (by omega)
  exact law X0 Y0 A0 n0 ca0 c0 A1 n1 ca1 c1 rX rY z2 nn0 ff0 nn1 ff1 w (by omega) (by omega) hnn0 hnn1 hr0 hr1 (fun W G0 G1 _ R0 R1 => hS W G0 G1 R0 R1) (fun W G0 G1 _ R0 R1 => hI W G0 G1 R0 R1)

end Go.Proofs.Ytkggimalkjjnoaa.liftAll
