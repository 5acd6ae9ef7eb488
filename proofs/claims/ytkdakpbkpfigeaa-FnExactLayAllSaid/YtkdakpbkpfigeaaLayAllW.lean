/-
  The walk of the law FnExactLayAll. Conditions stand at each.
-/
import Derived.Test.YtkdakpbkpfigeaaRows
import Derived.Test.YtkdakpbkpfigeaaSqN
import Derived.Test.YtkdakpbkpfigeaaLaAll
import Derived.Deep.RegionHeld3
import Derived.Deep.DeepCutAuto
import Derived.Lib.SmallJoins
namespace Go.Proofs.Ytkdakpbkpfigeaa.layAll
open Go Go.ChangeShapes Go.WideShapes Go.ChangeAt Go.RowKit
set_option linter.unusedVariables false
set_option linter.unusedSimpArgs false
set_option maxRecDepth 100000
set_option maxHeartbeats 4000000

theorem law (X0 Y0 : Int) (A0 : Option Addr) (n0 ca0 : Nat) (c0 : Nat → Int) (A1 : Option Addr) (n1 ca1 : Nat) (c1 : Nat → Int) (A2 : Option Addr) (n2 ca2 : Nat) (c2 : Nat → Int) (rX rY : Int) (z1 : Int) (nn : Nat) (ff : Nat → Int) (w : World) (hn0 : n0 ≤ 1048576) (hn1 : n0 + n1 ≤ 1048576) (hn2 : n2 ≤ 1048576) (hnn : nn ≤ 1000)
    (hr0 : Rd8 w w.heap.size A0 (4 * n0) c0) (hr1 : Rd8 w w.heap.size A1 (4 * n1) c1) (hr2 : RdK .i64 w w.heap.size A2 n2 c2)
    (hS : ∀ (W : World) (G0 G1 G2 : Nat), w.heap.size ≤ W.heap.size → Ab W G0 n0 c0 → Ab W G1 n1 c1 → Ar W G2 n2 c2 → 
      Calls Try.prog 37 #[.agg #[.int .i8 X0, .int .i8 Y0, .slice (some ⟨G0, 0, none⟩) n0 n0], .slice (some ⟨G1, 0, none⟩) n1 n1, .slice (some ⟨G2, 0, none⟩) n2 n2] W fun e w' => Below W.heap.size W w' ∧ ∃ v, e = .returned (.tuple #[.agg #[.int .i8 rX, .int .i8 rY, v], .int .i64 z1]) ∧ HasSlice .i8 4 w' W.heap.size v nn ff)
    (hI : ∀ (W : World) (G0 G1 G2 : Nat), w.heap.size ≤ W.heap.size → Ab W G0 n0 c0 → Ab W G1 n1 c1 → Ar W G2 n2 c2 → 
      Calls Try.prog 39 #[.agg #[.int .i8 X0, .int .i8 Y0, .slice (some ⟨G0, 0, none⟩) n0 n0], .slice (some ⟨G1, 0, none⟩) n1 n1, .slice (some ⟨G2, 0, none⟩) n2 n2] W fun e w' => Below W.heap.size W w' ∧ ∃ v, e = .returned (.tuple #[.agg #[.int .i8 rX, .int .i8 rY, v], .int .i64 z1]) ∧ HasSlice .i8 4 w' W.heap.size v nn ff) :
    Calls Try.prog 9 #[.agg #[.int .i8 X0, .int .i8 Y0, .slice A0 n0 ca0], .slice A1 n1 ca1, .slice A2 n2 ca2] w fun e w' => e = .returned (.bool true) ∧ Below w.heap.size w w' := by
  have HS := Lib.hid hS
  have HI := Lib.hid hI
  have HW := Nat.le_refl w.heap.size
  have HR0 := Lib.hid hr0
  have hz0 : 0 ≤ 1048576 - (n0 : Int) := by omega
  have HR1 := Lib.hid hr1
  have hz1 : 0 ≤ 1048576 - (n0 : Int) - (n1 : Int) := by omega
  have HR2 := Lib.hid hr2
  have hz2 : 0 ≤ 1048576 - (n2 : Int) := by omega
  have hrr1 : (z1 != z1) = false := by simp
  have B : Below w.heap.size w w := Below.refl _ _
  clear hS hI HW hr0 hr1 hr2
  go_enter Try.func9, Try.ntmps9
  have P0 := (Bx.new w #[.int .i8 X0, .int .i8 Y0, .slice A0 n0 ca0] 25)
  replace B := (al B (Obj.cells #[.int .i8 X0, .int .i8 Y0, .slice A0 n0 ca0] 25))
  go_wp2_with (refine wpList_load_box P0 rfl _ _ rfl rfl _ Try.underlying25 rfl (by kernel_rfl) ?_)
  refine (szSquare_ok X0 Y0 (1048576) A0 n0 ca0 _ (by omega) (by omega) (by omega)).mono ?_
  rintro e w1 ⟨rfl, hb⟩
  replace P0 := P0.below hb
  replace B := nxt B hb
  clear hb
  go_wp2_with fail
  refine (szSlabS_ok A1 n1 ca1 (1048576 - (n0 : Int)) _ (by omega) (by omega) (by omega)).mono ?_
  rintro e w2 ⟨rfl, rfl⟩
  go_wp2_with (refine wpList_load_box P0 rfl _ _ rfl rfl _ Try.underlying25 rfl (by kernel_rfl) ?_)
  refine (toSquare_ab X0 Y0 A0 n0 ca0 w.heap.size c0 _ (by omega) B.size (HR0.out.below B)).mono ?_
  rintro e w3 ⟨g50, rfl, hg, hb, R50⟩
  have lt0 : w.heap.size < g50 := Nat.lt_of_lt_of_le P0.lt hg
  have bzg50 : w.heap.size ≤ g50 := Nat.le_trans B.size hg
  replace P0 := P0.below hb
  replace B := nxt B hb
  clear hb
  clear hg
  go_wp2_with fail
  refine (toSlabS_ab A1 n1 ca1 w.heap.size c1 _ (by omega) B.size (HR1.out.below B)).mono ?_
  rintro e w4 ⟨g51, rfl, hg, hb, R51⟩
  have lt1 : w.heap.size < g51 := Nat.lt_of_lt_of_le P0.lt hg
  have lt2 : g50 < g51 := Nat.lt_of_lt_of_le R50.1 hg
  have bzg51 : w.heap.size ≤ g51 := Nat.le_trans B.size hg
  replace P0 := P0.below hb
  replace R50 := R50.below hb
  replace B := nxt B hb
  clear hb
  clear hg
  go_wp2_with fail
  refine (toInt64S_any A2 n2 ca2 w.heap.size c2 _ (by omega) B.size (HR2.out.below B)).mono ?_
  rintro e w5 ⟨g52, rfl, hg, hb, R52⟩
  have lt3 : w.heap.size < g52 := Nat.lt_of_lt_of_le P0.lt hg
  have lt4 : g50 < g52 := Nat.lt_of_lt_of_le R50.1 hg
  have lt5 : g51 < g52 := Nat.lt_of_lt_of_le R51.1 hg
  have bzg52 : w.heap.size ≤ g52 := Nat.le_trans B.size hg
  replace P0 := P0.below hb
  replace R50 := R50.below hb
  replace R51 := R51.below hb
  replace B := nxt B hb
  clear hb
  clear hg
  go_wp2_with fail
  refine (HS.out _ g50 g51 g52 B.size R50 R51 R52).mono ?_
  rintro e w6 ⟨hb, v5, rfl, A5, g5, cap5, S5⟩
  obtain rfl := S5.1
  have lt6 : 0 < nn → w.heap.size < g5 := fun h2 => Nat.lt_of_lt_of_le P0.lt (S5.2.1 h2).2.1
  have lt7 : 0 < nn → g50 < g5 := fun h2 => Nat.lt_of_lt_of_le R50.1 (S5.2.1 h2).2.1
  have lt8 : 0 < nn → g51 < g5 := fun h2 => Nat.lt_of_lt_of_le R51.1 (S5.2.1 h2).2.1
  have lt9 : 0 < nn → g52 < g5 := fun h2 => Nat.lt_of_lt_of_le R52.1 (S5.2.1 h2).2.1
  have bzg5 : 0 < nn → w.heap.size ≤ g5 := fun h => Nat.le_trans B.size (S5.2.1 h).2.1
  replace P0 := P0.below hb
  replace R50 := R50.below hb
  replace R51 := R51.below hb
  replace R52 := R52.below hb
  replace B := nxt B hb
  clear hb
  clear R50
  clear R51
  clear R52
  go_wp2_with (first
    | (refine wpList_load_box ((P0).alloc (.cells #[.int .i8 rX, .int .i8 rY, (.slice A5 nn cap5)] 31)) rfl _ _ rfl rfl _ Try.underlying25 rfl (by kernel_rfl) ?_
       have lt10 : w.heap.size < w6.heap.size := P0.lt
       have lt11 : 0 < nn → g5 < w6.heap.size := fun h => (S5.2.1 h).2.2
       have O5_0 := Bx.newAt w6 (w6.heap.size) #[.int .i8 rX, .int .i8 rY, (.slice A5 nn cap5)] 31 (by simp)
       replace P0 := P0.alloc (.cells #[.int .i8 rX, .int .i8 rY, (.slice A5 nn cap5)] 31)
       replace S5 := S5.alloc (.cells #[.int .i8 rX, .int .i8 rY, (.slice A5 nn cap5)] 31)
       replace B := al B (.cells #[.int .i8 rX, .int .i8 rY, (.slice A5 nn cap5)] 31)
       obtain ⟨w7, hW⟩ : ∃ W : World, W = (w6.alloc (.cells #[.int .i8 rX, .int .i8 rY, (.slice A5 nn cap5)] 31)) := ⟨_, rfl⟩
       rw [← hW] at P0 S5 O5_0 B ⊢
       clear hW))
  refine (toSquare_ab X0 Y0 A0 n0 ca0 w.heap.size c0 _ (by omega) B.size (HR0.out.below B)).mono ?_
  rintro e w8 ⟨g70, rfl, hg, hb, R70⟩
  have lt12 : w.heap.size < g70 := Nat.lt_of_lt_of_le P0.lt hg
  have lt13 : 0 < nn → g5 < g70 := fun h => Nat.lt_of_lt_of_le (S5.2.1 h).2.2 hg
  have lt14 : w6.heap.size < g70 := Nat.lt_of_lt_of_le O5_0.lt hg
  have bzg70 : w.heap.size ≤ g70 := Nat.le_trans B.size hg
  replace P0 := P0.below hb
  replace S5 := S5.below hb
  replace O5_0 := O5_0.below hb
  replace B := nxt B hb
  clear hb
  clear hg
  go_wp2_with fail
  have lt15 : w.heap.size < w8.heap.size := P0.lt
  have lt16 : 0 < nn → g5 < w8.heap.size := fun h => (S5.2.1 h).2.2
  have lt17 : w6.heap.size < w8.heap.size := O5_0.lt
  have lt18 : g70 < w8.heap.size := R70.1
  have U0 := Bx.newAt w8 (w8.heap.size) #[.int .i8 X0, .int .i8 Y0, .slice (some ⟨g70, 0, none⟩) n0 n0] 31 (by simp)
  replace P0 := P0.alloc (.cells #[.int .i8 X0, .int .i8 Y0, .slice (some ⟨g70, 0, none⟩) n0 n0] 31)
  replace S5 := S5.alloc (.cells #[.int .i8 X0, .int .i8 Y0, .slice (some ⟨g70, 0, none⟩) n0 n0] 31)
  replace O5_0 := O5_0.alloc (.cells #[.int .i8 X0, .int .i8 Y0, .slice (some ⟨g70, 0, none⟩) n0 n0] 31)
  replace R70 := R70.alloc (.cells #[.int .i8 X0, .int .i8 Y0, .slice (some ⟨g70, 0, none⟩) n0 n0] 31)
  replace B := al B (.cells #[.int .i8 X0, .int .i8 Y0, .slice (some ⟨g70, 0, none⟩) n0 n0] 31)
  obtain ⟨w9, hW⟩ : ∃ W : World, W = (w8.alloc (.cells #[.int .i8 X0, .int .i8 Y0, .slice (some ⟨g70, 0, none⟩) n0 n0] 31)) := ⟨_, rfl⟩
  rw [← hW] at P0 S5 O5_0 R70 U0 B ⊢
  clear hW
  refine (toSlabS_ab A1 n1 ca1 w.heap.size c1 _ (by omega) B.size (HR1.out.below B)).mono ?_
  rintro e w10 ⟨g71, rfl, hg, hb, R71⟩
  have lt19 : w.heap.size < g71 := Nat.lt_of_lt_of_le P0.lt hg
  have lt20 : 0 < nn → g5 < g71 := fun h => Nat.lt_of_lt_of_le (S5.2.1 h).2.2 hg
  have lt21 : w6.heap.size < g71 := Nat.lt_of_lt_of_le O5_0.lt hg
  have lt22 : g70 < g71 := Nat.lt_of_lt_of_le R70.1 hg
  have lt23 : w8.heap.size < g71 := Nat.lt_of_lt_of_le U0.lt hg
  have bzg71 : w.heap.size ≤ g71 := Nat.le_trans B.size hg
  replace P0 := P0.below hb
  replace S5 := S5.below hb
  replace O5_0 := O5_0.below hb
  replace R70 := R70.below hb
  replace U0 := U0.below hb
  replace B := nxt B hb
  clear hb
  clear hg
  go_wp2_with fail
  refine (toInt64S_any A2 n2 ca2 w.heap.size c2 _ (by omega) B.size (HR2.out.below B)).mono ?_
  rintro e w11 ⟨g72, rfl, hg, hb, R72⟩
  have lt24 : w.heap.size < g72 := Nat.lt_of_lt_of_le P0.lt hg
  have lt25 : 0 < nn → g5 < g72 := fun h => Nat.lt_of_lt_of_le (S5.2.1 h).2.2 hg
  have lt26 : w6.heap.size < g72 := Nat.lt_of_lt_of_le O5_0.lt hg
  have lt27 : g70 < g72 := Nat.lt_of_lt_of_le R70.1 hg
  have lt28 : w8.heap.size < g72 := Nat.lt_of_lt_of_le U0.lt hg
  have lt29 : g71 < g72 := Nat.lt_of_lt_of_le R71.1 hg
  have bzg72 : w.heap.size ≤ g72 := Nat.le_trans B.size hg
  replace P0 := P0.below hb
  replace S5 := S5.below hb
  replace O5_0 := O5_0.below hb
  replace R70 := R70.below hb
  replace U0 := U0.below hb
  replace R71 := R71.below hb
  replace B := nxt B hb
  clear hb
  clear hg
  go_wp2_with (refine wpList_load_box U0 rfl _ _ rfl rfl _ Try.underlying31 rfl (by kernel_rfl) ?_)
  refine (HI.out _ g70 g71 g72 B.size R70 R71 R72).mono ?_
  rintro e w12 ⟨hb, v9, rfl, A9, g9, cap9, S9⟩
  obtain rfl := S9.1
  have lt30 : 0 < nn → w.heap.size < g9 := fun h2 => Nat.lt_of_lt_of_le P0.lt (S9.2.1 h2).2.1
  have lt31 : 0 < nn → 0 < nn → g5 < g9 := fun h h2 => Nat.lt_of_lt_of_le (S5.2.1 h).2.2 (S9.2.1 h2).2.1
  have lt32 : 0 < nn → w6.heap.size < g9 := fun h2 => Nat.lt_of_lt_of_le O5_0.lt (S9.2.1 h2).2.1
  have lt33 : 0 < nn → g70 < g9 := fun h2 => Nat.lt_of_lt_of_le R70.1 (S9.2.1 h2).2.1
  have lt34 : 0 < nn → w8.heap.size < g9 := fun h2 => Nat.lt_of_lt_of_le U0.lt (S9.2.1 h2).2.1
  have lt35 : 0 < nn → g71 < g9 := fun h2 => Nat.lt_of_lt_of_le R71.1 (S9.2.1 h2).2.1
  have lt36 : 0 < nn → g72 < g9 := fun h2 => Nat.lt_of_lt_of_le R72.1 (S9.2.1 h2).2.1
  have bzg9 : 0 < nn → w.heap.size ≤ g9 := fun h => Nat.le_trans B.size (S9.2.1 h).2.1
  replace P0 := P0.below hb
  replace S5 := S5.below hb
  replace O5_0 := O5_0.below hb
  replace R70 := R70.below hb
  replace U0 := U0.below hb
  replace R71 := R71.below hb
  replace R72 := R72.below hb
  replace B := nxt B hb
  clear hb
  go_wp2_with (first
    | (refine wpList_load_box (Bx.newAt w12 (w12.heap.size) #[.int .i8 rX, .int .i8 rY, (.slice A9 nn cap9)] 31 (by simp)) rfl _ _ rfl rfl _ Try.underlying31 rfl (by kernel_rfl) ?_
       have lt37 : w.heap.size < w12.heap.size := P0.lt
       have lt38 : 0 < nn → g5 < w12.heap.size := fun h => (S5.2.1 h).2.2
       have lt39 : w6.heap.size < w12.heap.size := O5_0.lt
       have lt40 : g70 < w12.heap.size := R70.1
       have lt41 : w8.heap.size < w12.heap.size := U0.lt
       have lt42 : g71 < w12.heap.size := R71.1
       have lt43 : g72 < w12.heap.size := R72.1
       have lt44 : 0 < nn → g9 < w12.heap.size := fun h => (S9.2.1 h).2.2
       have O9_0 := Bx.newAt w12 (w12.heap.size) #[.int .i8 rX, .int .i8 rY, (.slice A9 nn cap9)] 31 (by simp)
       replace P0 := P0.alloc (.cells #[.int .i8 rX, .int .i8 rY, (.slice A9 nn cap9)] 31)
       replace S5 := S5.alloc (.cells #[.int .i8 rX, .int .i8 rY, (.slice A9 nn cap9)] 31)
       replace O5_0 := O5_0.alloc (.cells #[.int .i8 rX, .int .i8 rY, (.slice A9 nn cap9)] 31)
       replace R70 := R70.alloc (.cells #[.int .i8 rX, .int .i8 rY, (.slice A9 nn cap9)] 31)
       replace U0 := U0.alloc (.cells #[.int .i8 rX, .int .i8 rY, (.slice A9 nn cap9)] 31)
       replace R71 := R71.alloc (.cells #[.int .i8 rX, .int .i8 rY, (.slice A9 nn cap9)] 31)
       replace R72 := R72.alloc (.cells #[.int .i8 rX, .int .i8 rY, (.slice A9 nn cap9)] 31)
       replace S9 := S9.alloc (.cells #[.int .i8 rX, .int .i8 rY, (.slice A9 nn cap9)] 31)
       replace B := al B (.cells #[.int .i8 rX, .int .i8 rY, (.slice A9 nn cap9)] 31)
       obtain ⟨w13, hW⟩ : ∃ W : World, W = (w12.alloc (.cells #[.int .i8 rX, .int .i8 rY, (.slice A9 nn cap9)] 31)) := ⟨_, rfl⟩
       rw [← hW] at P0 S5 O5_0 R70 U0 R71 R72 S9 O9_0 B ⊢
       clear hW)
    | (refine wpList_load_box O5_0 rfl _ _ rfl rfl _ Try.underlying31 rfl (by kernel_rfl) ?_))
  refine (eqSquare_yes rX rY A9 A5 nn nn cap9 cap5 _ ff ff _ (by omega) (by omega) (Nat.le_refl _) (S9.rd8) (S5.rd8) ⟨rfl, fun _ _ => rfl⟩).mono ?_
  rintro e w14 ⟨rfl, hb⟩
  replace P0 := P0.below hb
  replace S5 := S5.below hb
  replace O5_0 := O5_0.below hb
  replace R70 := R70.below hb
  replace U0 := U0.below hb
  replace R71 := R71.below hb
  replace R72 := R72.below hb
  replace S9 := S9.below hb
  replace O9_0 := O9_0.below hb
  replace B := nxt B hb
  clear hb
  go_wp2_with fail
  refine wp_region_held_drew (S := (fun w' : World => Bx w' w8.heap.size #[.int .i8 X0, .int .i8 Y0, .slice (some ⟨g70, 0, none⟩) n0 n0] 31 ∧ Bx w' w.heap.size #[.int .i8 X0, .int .i8 Y0, .slice A0 n0 ca0] 25)) (by kernel_rfl) ⟨U0, P0⟩ (fun hHeld => ?_)
  replace P0 := P0.drew
  replace S5 := S5.drew
  replace O5_0 := O5_0.drew
  replace R70 := R70.drew
  replace U0 := U0.drew
  replace R71 := R71.drew
  replace R72 := R72.drew
  replace S9 := S9.drew
  replace O9_0 := O9_0.drew
  replace B := B.drew
  obtain ⟨w15, hW⟩ : ∃ W : World, W = w14.drew := ⟨_, rfl⟩
  rw [← hW] at P0 S5 O5_0 R70 U0 R71 R72 S9 O9_0 B hHeld ⊢
  clear hW
  refine wpAnyH_take (i := 0) (oi := _) (v := .agg #[.int .i8 X0, .int .i8 Y0, .slice (some ⟨g70, 0, none⟩) n0 n0]) rfl (by kernel_rfl) (by kernel_rfl) (by kernel_rfl) (fun _ _ _ h => h) (yields_box (by kernel_rfl) _ _ rfl w8.heap.size rfl #[.int .i8 X0, .int .i8 Y0, .slice (some ⟨g70, 0, none⟩) n0 n0] 31 (fun _ hS => hS.1) _ Try.underlying31 rfl (by kernel_rfl)) (by assumption) ?_
  try simp only [List.getElem_toArray, List.getElem_cons_zero, List.getElem_cons_succ, Act.put, List.setIfInBounds_toArray, List.set_cons_zero, List.set_cons_succ]
  refine wpAnyH_take (i := 1) (oi := _) (v := .agg #[.int .i8 X0, .int .i8 Y0, .slice A0 n0 ca0]) rfl (by kernel_rfl) (by kernel_rfl) (by kernel_rfl) (fun _ _ _ h => h) (yields_box (by kernel_rfl) _ _ rfl w.heap.size rfl #[.int .i8 X0, .int .i8 Y0, .slice A0 n0 ca0] 25 (fun _ hS => hS.2) _ Try.underlying25 rfl (by kernel_rfl)) (by assumption) ?_
  try simp only [List.getElem_toArray, List.getElem_cons_zero, List.getElem_cons_succ, Act.put, List.setIfInBounds_toArray, List.set_cons_zero, List.set_cons_succ]
  refine wpAnyH_ready (rs := [2]) (by kernel_rfl) (by simp) ?_
  refine AllReadyH.cons (o := _) rfl (fun K hK => ?_) AllReadyH.nil
  go_simp
  refine (toSquare_ab X0 Y0 A0 n0 ca0 w.heap.size c0 _ (by omega) B.size (HR0.out.below B)).mono ?_
  rintro e w16 ⟨gc0, rfl, hg, hb, Rc0⟩
  replace P0 := P0.below hb
  replace S5 := S5.below hb
  replace O5_0 := O5_0.below hb
  replace R70 := R70.below hb
  replace U0 := U0.below hb
  replace R71 := R71.below hb
  replace R72 := R72.below hb
  replace S9 := S9.below hb
  replace O9_0 := O9_0.below hb
  replace B := nxt B hb
  clear hb
  clear hg
  refine hK.out _ _ ⟨U0, P0⟩ (fun hHeld => ?_)
  clear hK K
  try simp only [List.getElem_toArray, List.getElem_cons_zero, List.getElem_cons_succ, Act.put, List.setIfInBounds_toArray, List.set_cons_zero, List.set_cons_succ]
  refine wpAnyH_ready (rs := [3]) (by kernel_rfl) (by simp) ?_
  refine AllReadyH.cons (o := _) rfl (fun K hK => ?_) AllReadyH.nil
  go_simp
  refine (eqSquare_yes X0 Y0 (some ⟨g70, 0, none⟩) (some ⟨gc0, 0, none⟩) n0 n0 n0 n0 _ c0 c0 _ (by omega) (by omega) (Nat.le_refl _) R70.rd Rc0.rd ⟨rfl, fun _ _ => rfl⟩).mono ?_
  rintro e w17 ⟨rfl, hb⟩
  replace P0 := P0.below hb
  replace S5 := S5.below hb
  replace O5_0 := O5_0.below hb
  replace R70 := R70.below hb
  replace U0 := U0.below hb
  replace R71 := R71.below hb
  replace R72 := R72.below hb
  replace S9 := S9.below hb
  replace O9_0 := O9_0.below hb
  replace Rc0 := Rc0.below hb
  replace B := nxt B hb
  clear hb
  refine hK.out _ _ ⟨U0, P0⟩ (fun hHeld => ?_)
  clear hK K
  try simp only [List.getElem_toArray, List.getElem_cons_zero, List.getElem_cons_succ, Act.put, List.setIfInBounds_toArray, List.set_cons_zero, List.set_cons_succ]
  refine wpAnyH_take (i := 4) (oi := _) (v := ?_) rfl (by kernel_rfl) (by kernel_rfl) (by kernel_rfl) (fun _ _ _ h => h) (Or.inl ⟨by kernel_rfl, ?_⟩) (by assumption) ?_
  rotate_left
  · intro w hSw; (try dsimp only at hSw); go_simp; first | done | with_reducible rfl
  try simp only [List.getElem_toArray, List.getElem_cons_zero, List.getElem_cons_succ, Act.put, List.setIfInBounds_toArray, List.set_cons_zero, List.set_cons_succ]
  refine wpAnyH_done (by kernel_rfl) ?_ _
  clear Rc0
  go_wp2_with fail
  refine (toSlabS_ab A1 n1 ca1 w.heap.size c1 _ (by omega) B.size (HR1.out.below B)).mono ?_
  rintro e w18 ⟨gc1, rfl, hg, hb, Rc1⟩
  have lt45 : w.heap.size < gc1 := Nat.lt_of_lt_of_le P0.lt hg
  have lt46 : 0 < nn → g5 < gc1 := fun h => Nat.lt_of_lt_of_le (S5.2.1 h).2.2 hg
  have lt47 : w6.heap.size < gc1 := Nat.lt_of_lt_of_le O5_0.lt hg
  have lt48 : g70 < gc1 := Nat.lt_of_lt_of_le R70.1 hg
  have lt49 : w8.heap.size < gc1 := Nat.lt_of_lt_of_le U0.lt hg
  have lt50 : g71 < gc1 := Nat.lt_of_lt_of_le R71.1 hg
  have lt51 : g72 < gc1 := Nat.lt_of_lt_of_le R72.1 hg
  have lt52 : 0 < nn → g9 < gc1 := fun h => Nat.lt_of_lt_of_le (S9.2.1 h).2.2 hg
  have lt53 : w12.heap.size < gc1 := Nat.lt_of_lt_of_le O9_0.lt hg
  have bzgc1 : w.heap.size ≤ gc1 := Nat.le_trans B.size hg
  replace P0 := P0.below hb
  replace S5 := S5.below hb
  replace O5_0 := O5_0.below hb
  replace R70 := R70.below hb
  replace U0 := U0.below hb
  replace R71 := R71.below hb
  replace R72 := R72.below hb
  replace S9 := S9.below hb
  replace O9_0 := O9_0.below hb
  replace B := nxt B hb
  clear hb
  clear hg
  go_wp2_with fail
  refine (eqSlabS_ab (some ⟨g71, 0, none⟩) (some ⟨gc1, 0, none⟩) n1 n1 n1 n1 _ c1 c1 _ (by omega) (by omega) (Nat.le_refl _) R71.rd Rc1.rd ⟨rfl, fun _ _ => rfl⟩).mono ?_
  rintro e w19 ⟨rfl, hb⟩
  replace P0 := P0.below hb
  replace S5 := S5.below hb
  replace O5_0 := O5_0.below hb
  replace R70 := R70.below hb
  replace U0 := U0.below hb
  replace R71 := R71.below hb
  replace R72 := R72.below hb
  replace S9 := S9.below hb
  replace O9_0 := O9_0.below hb
  replace Rc1 := Rc1.below hb
  replace B := nxt B hb
  clear hb
  clear Rc1
  go_wp2_with fail
  refine (toInt64S_any A2 n2 ca2 w.heap.size c2 _ (by omega) B.size (HR2.out.below B)).mono ?_
  rintro e w20 ⟨gc2, rfl, hg, hb, Rc2⟩
  have lt54 : w.heap.size < gc2 := Nat.lt_of_lt_of_le P0.lt hg
  have lt55 : 0 < nn → g5 < gc2 := fun h => Nat.lt_of_lt_of_le (S5.2.1 h).2.2 hg
  have lt56 : w6.heap.size < gc2 := Nat.lt_of_lt_of_le O5_0.lt hg
  have lt57 : g70 < gc2 := Nat.lt_of_lt_of_le R70.1 hg
  have lt58 : w8.heap.size < gc2 := Nat.lt_of_lt_of_le U0.lt hg
  have lt59 : g71 < gc2 := Nat.lt_of_lt_of_le R71.1 hg
  have lt60 : g72 < gc2 := Nat.lt_of_lt_of_le R72.1 hg
  have lt61 : 0 < nn → g9 < gc2 := fun h => Nat.lt_of_lt_of_le (S9.2.1 h).2.2 hg
  have lt62 : w12.heap.size < gc2 := Nat.lt_of_lt_of_le O9_0.lt hg
  have bzgc2 : w.heap.size ≤ gc2 := Nat.le_trans B.size hg
  replace P0 := P0.below hb
  replace S5 := S5.below hb
  replace O5_0 := O5_0.below hb
  replace R70 := R70.below hb
  replace U0 := U0.below hb
  replace R71 := R71.below hb
  replace R72 := R72.below hb
  replace S9 := S9.below hb
  replace O9_0 := O9_0.below hb
  replace B := nxt B hb
  clear hb
  clear hg
  go_wp2_with fail
  refine (eqInt64S_any (some ⟨g72, 0, none⟩) (some ⟨gc2, 0, none⟩) n2 n2 n2 n2 _ c2 c2 _ (by omega) (by omega) (Nat.le_refl _) R72.rd Rc2.rd ⟨rfl, fun _ _ => rfl⟩).mono ?_
  rintro e w21 ⟨rfl, hb⟩
  replace P0 := P0.below hb
  replace S5 := S5.below hb
  replace O5_0 := O5_0.below hb
  replace R70 := R70.below hb
  replace U0 := U0.below hb
  replace R71 := R71.below hb
  replace R72 := R72.below hb
  replace S9 := S9.below hb
  replace O9_0 := O9_0.below hb
  replace Rc2 := Rc2.below hb
  replace B := nxt B hb
  clear hb
  clear Rc2
  go_wp2_with (refine wpList_load_box U0 rfl _ _ rfl rfl _ Try.underlying31 rfl (by kernel_rfl) ?_)
  refine (markSquare_ab X0 Y0 (some ⟨g70, 0, none⟩) g70 0 n0 n0 c0 (1) _ (by omega) (by omega) (by omega) (fun _ => rfl) (fun _ => R70.1) R70.2).mono ?_
  rintro e w22 ⟨rfl, hgr, _⟩
  replace P0 := P0.of_block (blockG hgr P0.lt (fun hm => by have := lt12; omega))
  replace S5 := S5.kept hgr.size (fun h => blockG hgr (S5.2.1 h).2.2 (fun hm => by have := (lt13 h); omega))
  replace O5_0 := O5_0.of_block (blockG hgr O5_0.lt (fun hm => by have := lt14; omega))
  replace U0 := U0.of_block (blockG hgr U0.lt (fun hm => by have := lt18; omega))
  replace R71 := R71.kept hgr.size (blockG hgr R71.1 (fun hm => by have := lt22; omega))
  replace R72 := R72.kept hgr.size (blockG hgr R72.1 (fun hm => by have := lt27; omega))
  replace S9 := S9.kept hgr.size (fun h => blockG hgr (S9.2.1 h).2.2 (fun hm => by have := (lt33 h); omega))
  replace O9_0 := O9_0.of_block (blockG hgr O9_0.lt (fun hm => by have := lt40; omega))
  replace B := below_rowOf B hgr B.size (fun _ => bzg70)
  clear hgr
  clear R70
  have hyy0 : 0 ≤ 1 + 4 * (n0 : Int) := by omega
  go_wp2_with fail
  refine (markSlabS_ab (some ⟨g71, 0, none⟩) g71 0 n1 n1 c1 (1 + 4 * (n0 : Int)) _ (by omega) (by omega) (by omega) (fun _ => rfl) R71.2).mono ?_
  rintro e w23 ⟨rfl, hgr, _⟩
  replace P0 := P0.of_block (blockG hgr P0.lt (fun hm => by have := lt19; omega))
  replace S5 := S5.kept hgr.size (fun h => blockG hgr (S5.2.1 h).2.2 (fun hm => by have := (lt20 h); omega))
  replace O5_0 := O5_0.of_block (blockG hgr O5_0.lt (fun hm => by have := lt21; omega))
  replace U0 := U0.of_block (blockG hgr U0.lt (fun hm => by have := lt23; omega))
  replace R72 := R72.kept hgr.size (blockG hgr R72.1 (fun hm => by have := lt29; omega))
  replace S9 := S9.kept hgr.size (fun h => blockG hgr (S9.2.1 h).2.2 (fun hm => by have := (lt35 h); omega))
  replace O9_0 := O9_0.of_block (blockG hgr O9_0.lt (fun hm => by have := lt42; omega))
  replace B := below_rowOf B hgr B.size (fun _ => bzg71)
  clear hgr
  clear R71
  have hyy1 : 0 ≤ 1 + 4 * (n0 : Int) + 4 * (n1 : Int) := by omega
  go_wp2_with fail
  refine (markInt64S_any (some ⟨g72, 0, none⟩) g72 0 n2 n2 c2 (1 + 4 * (n0 : Int) + 4 * (n1 : Int)) _ (by omega) (by omega) (by omega) (fun _ => rfl) R72.2).mono ?_
  rintro e w24 ⟨rfl, hgr, _⟩
  replace P0 := P0.of_block (blockG hgr P0.lt (fun hm => by have := lt24; omega))
  replace S5 := S5.kept hgr.size (fun h => blockG hgr (S5.2.1 h).2.2 (fun hm => by have := (lt25 h); omega))
  replace O5_0 := O5_0.of_block (blockG hgr O5_0.lt (fun hm => by have := lt26; omega))
  replace U0 := U0.of_block (blockG hgr U0.lt (fun hm => by have := lt28; omega))
  replace S9 := S9.kept hgr.size (fun h => blockG hgr (S9.2.1 h).2.2 (fun hm => by have := (lt36 h); omega))
  replace O9_0 := O9_0.of_block (blockG hgr O9_0.lt (fun hm => by have := lt43; omega))
  replace B := below_rowOf B hgr B.size (fun _ => bzg72)
  clear hgr
  clear R72
  have hyy2 : 0 ≤ 1 + 4 * (n0 : Int) + 4 * (n1 : Int) + (n2 : Int) := by omega
  go_wp2_with (first
    | (refine wpList_load_boxG O9_0 (by kernel_rfl) _ _ rfl rfl _ Try.underlying31 rfl (by kernel_rfl) ?_)
    | (refine wpList_load_boxG O5_0 (by kernel_rfl) _ _ rfl rfl _ Try.underlying31 rfl (by kernel_rfl) ?_))
  refine (eqSquare_yes rX rY A9 A5 nn nn cap9 cap5 _ ff ff _ (by omega) (by omega) (Nat.le_refl _) (S9.rd8) (S5.rd8) ⟨rfl, fun _ _ => rfl⟩).mono ?_
  rintro e w25 ⟨rfl, hb⟩
  replace P0 := P0.below hb
  replace S5 := S5.below hb
  replace O5_0 := O5_0.below hb
  replace U0 := U0.below hb
  replace S9 := S9.below hb
  replace O9_0 := O9_0.below hb
  replace B := nxt B hb
  clear hb
  have hkk : (1 + 4 * (nn : Int) != 1 + 4 * (nn : Int)) = false := by simp
  go_wp2_with (refine wpList_load_box O9_0 rfl _ _ rfl rfl _ Try.underlying31 rfl (by kernel_rfl) ?_)
  have hk90 : 0 ≤ 1 + 4 * (nn : Int) := by omega
  refine (markSquare_ab rX rY A9 g9 0 nn cap9 ff (1) _ (by omega) (by omega) (by omega) (fun h => (S9.2.1 h).1) (fun h => (S9.2.1 h).2.2) S9.2.2).mono ?_
  rintro e w26 ⟨rfl, hgr, ho⟩
  replace P0 := P0.of_block (blockG hgr P0.lt (fun hm => by have := (lt30 hm); omega))
  replace S5 := S5.kept hgr.size (fun h => blockG hgr (S5.2.1 h).2.2 (fun hm => by have := (lt31 hm hm); omega))
  replace O5_0 := O5_0.of_block (blockG hgr O5_0.lt (fun hm => by have := (lt32 hm); omega))
  replace U0 := U0.of_block (blockG hgr U0.lt (fun hm => by have := (lt34 hm); omega))
  replace O9_0 := O9_0.of_block (blockG hgr O9_0.lt (fun hm => by have := (lt44 hm); omega))
  replace S9 := S9.marked hgr.size (by first | exact ho | simpa using ho)
  replace B := below_rowOf B hgr B.size bzg9
  clear hgr ho
  go_wp2_with (refine wpList_load_box O9_0 rfl _ _ rfl rfl _ Try.underlying31 rfl (by kernel_rfl) ?_)
  refine (heldSquare_any rX rY A9 g9 0 nn cap9 (1) _ (by omega) (by omega) (by omega) (fun h => (S9.2.1 h).1) S9.2.2 (fun h => (S9.2.1 h).2.2)).mono ?_
  rintro e w27 ⟨rfl, hb⟩
  replace P0 := P0.below hb
  replace S5 := S5.below hb
  replace O5_0 := O5_0.below hb
  replace U0 := U0.below hb
  replace S9 := S9.below hb
  replace O9_0 := O9_0.below hb
  replace B := nxt B hb
  clear hb
  go_wp2_with (refine wpList_load_box P0 rfl _ _ rfl rfl _ Try.underlying25 rfl (by kernel_rfl) ?_)
  refine (toSquare_ab X0 Y0 A0 n0 ca0 w.heap.size c0 _ (by omega) B.size (HR0.out.below B)).mono ?_
  rintro e w28 ⟨g190, rfl, hg, hb, R190⟩
  have lt63 : w.heap.size < g190 := Nat.lt_of_lt_of_le P0.lt hg
  have lt64 : 0 < nn → g5 < g190 := fun h => Nat.lt_of_lt_of_le (S5.2.1 h).2.2 hg
  have lt65 : w6.heap.size < g190 := Nat.lt_of_lt_of_le O5_0.lt hg
  have lt66 : w8.heap.size < g190 := Nat.lt_of_lt_of_le U0.lt hg
  have lt67 : 0 < nn → g9 < g190 := fun h => Nat.lt_of_lt_of_le (S9.2.1 h).2.2 hg
  have lt68 : w12.heap.size < g190 := Nat.lt_of_lt_of_le O9_0.lt hg
  have bzg190 : w.heap.size ≤ g190 := Nat.le_trans B.size hg
  replace P0 := P0.below hb
  replace S5 := S5.below hb
  replace O5_0 := O5_0.below hb
  replace U0 := U0.below hb
  replace S9 := S9.below hb
  replace O9_0 := O9_0.below hb
  replace B := nxt B hb
  clear hb
  clear hg
  go_wp2_with fail
  refine (toSlabS_ab A1 n1 ca1 w.heap.size c1 _ (by omega) B.size (HR1.out.below B)).mono ?_
  rintro e w29 ⟨g191, rfl, hg, hb, R191⟩
  have lt69 : w.heap.size < g191 := Nat.lt_of_lt_of_le P0.lt hg
  have lt70 : 0 < nn → g5 < g191 := fun h => Nat.lt_of_lt_of_le (S5.2.1 h).2.2 hg
  have lt71 : w6.heap.size < g191 := Nat.lt_of_lt_of_le O5_0.lt hg
  have lt72 : w8.heap.size < g191 := Nat.lt_of_lt_of_le U0.lt hg
  have lt73 : 0 < nn → g9 < g191 := fun h => Nat.lt_of_lt_of_le (S9.2.1 h).2.2 hg
  have lt74 : w12.heap.size < g191 := Nat.lt_of_lt_of_le O9_0.lt hg
  have lt75 : g190 < g191 := Nat.lt_of_lt_of_le R190.1 hg
  have bzg191 : w.heap.size ≤ g191 := Nat.le_trans B.size hg
  replace P0 := P0.below hb
  replace S5 := S5.below hb
  replace O5_0 := O5_0.below hb
  replace U0 := U0.below hb
  replace S9 := S9.below hb
  replace O9_0 := O9_0.below hb
  replace R190 := R190.below hb
  replace B := nxt B hb
  clear hb
  clear hg
  go_wp2_with fail
  refine (toInt64S_any A2 n2 ca2 w.heap.size c2 _ (by omega) B.size (HR2.out.below B)).mono ?_
  rintro e w30 ⟨g192, rfl, hg, hb, R192⟩
  have lt76 : w.heap.size < g192 := Nat.lt_of_lt_of_le P0.lt hg
  have lt77 : 0 < nn → g5 < g192 := fun h => Nat.lt_of_lt_of_le (S5.2.1 h).2.2 hg
  have lt78 : w6.heap.size < g192 := Nat.lt_of_lt_of_le O5_0.lt hg
  have lt79 : w8.heap.size < g192 := Nat.lt_of_lt_of_le U0.lt hg
  have lt80 : 0 < nn → g9 < g192 := fun h => Nat.lt_of_lt_of_le (S9.2.1 h).2.2 hg
  have lt81 : w12.heap.size < g192 := Nat.lt_of_lt_of_le O9_0.lt hg
  have lt82 : g190 < g192 := Nat.lt_of_lt_of_le R190.1 hg
  have lt83 : g191 < g192 := Nat.lt_of_lt_of_le R191.1 hg
  have bzg192 : w.heap.size ≤ g192 := Nat.le_trans B.size hg
  replace P0 := P0.below hb
  replace S5 := S5.below hb
  replace O5_0 := O5_0.below hb
  replace U0 := U0.below hb
  replace S9 := S9.below hb
  replace O9_0 := O9_0.below hb
  replace R190 := R190.below hb
  replace R191 := R191.below hb
  replace B := nxt B hb
  clear hb
  clear hg
  go_wp2_with fail
  refine (HI.out _ g190 g191 g192 B.size R190 R191 R192).mono ?_
  rintro e w31 ⟨hb, v19, rfl, A19, g19, cap19, S19⟩
  obtain rfl := S19.1
  have lt84 : 0 < nn → w.heap.size < g19 := fun h2 => Nat.lt_of_lt_of_le P0.lt (S19.2.1 h2).2.1
  have lt85 : 0 < nn → 0 < nn → g5 < g19 := fun h h2 => Nat.lt_of_lt_of_le (S5.2.1 h).2.2 (S19.2.1 h2).2.1
  have lt86 : 0 < nn → w6.heap.size < g19 := fun h2 => Nat.lt_of_lt_of_le O5_0.lt (S19.2.1 h2).2.1
  have lt87 : 0 < nn → w8.heap.size < g19 := fun h2 => Nat.lt_of_lt_of_le U0.lt (S19.2.1 h2).2.1
  have lt88 : 0 < nn → 0 < nn → g9 < g19 := fun h h2 => Nat.lt_of_lt_of_le (S9.2.1 h).2.2 (S19.2.1 h2).2.1
  have lt89 : 0 < nn → w12.heap.size < g19 := fun h2 => Nat.lt_of_lt_of_le O9_0.lt (S19.2.1 h2).2.1
  have lt90 : 0 < nn → g190 < g19 := fun h2 => Nat.lt_of_lt_of_le R190.1 (S19.2.1 h2).2.1
  have lt91 : 0 < nn → g191 < g19 := fun h2 => Nat.lt_of_lt_of_le R191.1 (S19.2.1 h2).2.1
  have lt92 : 0 < nn → g192 < g19 := fun h2 => Nat.lt_of_lt_of_le R192.1 (S19.2.1 h2).2.1
  have bzg19 : 0 < nn → w.heap.size ≤ g19 := fun h => Nat.le_trans B.size (S19.2.1 h).2.1
  replace P0 := P0.below hb
  replace S5 := S5.below hb
  replace O5_0 := O5_0.below hb
  replace U0 := U0.below hb
  replace S9 := S9.below hb
  replace O9_0 := O9_0.below hb
  replace R190 := R190.below hb
  replace R191 := R191.below hb
  replace R192 := R192.below hb
  replace B := nxt B hb
  clear hb
  clear R190
  clear R191
  clear R192
  go_wp2_with (first
    | (refine wpList_load_box (Bx.newAt w31 (w31.heap.size) #[.int .i8 rX, .int .i8 rY, (.slice A19 nn cap19)] 31 (by simp)) rfl _ _ rfl rfl _ Try.underlying31 rfl (by kernel_rfl) ?_
       have lt93 : w.heap.size < w31.heap.size := P0.lt
       have lt94 : 0 < nn → g5 < w31.heap.size := fun h => (S5.2.1 h).2.2
       have lt95 : w6.heap.size < w31.heap.size := O5_0.lt
       have lt96 : w8.heap.size < w31.heap.size := U0.lt
       have lt97 : 0 < nn → g9 < w31.heap.size := fun h => (S9.2.1 h).2.2
       have lt98 : w12.heap.size < w31.heap.size := O9_0.lt
       have lt99 : 0 < nn → g19 < w31.heap.size := fun h => (S19.2.1 h).2.2
       have O19_0 := Bx.newAt w31 (w31.heap.size) #[.int .i8 rX, .int .i8 rY, (.slice A19 nn cap19)] 31 (by simp)
       replace P0 := P0.alloc (.cells #[.int .i8 rX, .int .i8 rY, (.slice A19 nn cap19)] 31)
       replace S5 := S5.alloc (.cells #[.int .i8 rX, .int .i8 rY, (.slice A19 nn cap19)] 31)
       replace O5_0 := O5_0.alloc (.cells #[.int .i8 rX, .int .i8 rY, (.slice A19 nn cap19)] 31)
       replace U0 := U0.alloc (.cells #[.int .i8 rX, .int .i8 rY, (.slice A19 nn cap19)] 31)
       replace S9 := S9.alloc (.cells #[.int .i8 rX, .int .i8 rY, (.slice A19 nn cap19)] 31)
       replace O9_0 := O9_0.alloc (.cells #[.int .i8 rX, .int .i8 rY, (.slice A19 nn cap19)] 31)
       replace S19 := S19.alloc (.cells #[.int .i8 rX, .int .i8 rY, (.slice A19 nn cap19)] 31)
       replace B := al B (.cells #[.int .i8 rX, .int .i8 rY, (.slice A19 nn cap19)] 31)
       obtain ⟨w32, hW⟩ : ∃ W : World, W = (w31.alloc (.cells #[.int .i8 rX, .int .i8 rY, (.slice A19 nn cap19)] 31)) := ⟨_, rfl⟩
       rw [← hW] at P0 S5 O5_0 U0 S9 O9_0 S19 O19_0 B ⊢
       clear hW)
    | (refine wpList_load_box O5_0 rfl _ _ rfl rfl _ Try.underlying31 rfl (by kernel_rfl) ?_))
  refine (eqSquare_yes rX rY A19 A5 nn nn cap19 cap5 _ ff ff _ (by omega) (by omega) (Nat.le_refl _) (S19.rd8) (S5.rd8) ⟨rfl, fun _ _ => rfl⟩).mono ?_
  rintro e w33 ⟨rfl, hb⟩
  replace P0 := P0.below hb
  replace S5 := S5.below hb
  replace O5_0 := O5_0.below hb
  replace U0 := U0.below hb
  replace S9 := S9.below hb
  replace O9_0 := O9_0.below hb
  replace S19 := S19.below hb
  replace O19_0 := O19_0.below hb
  replace B := nxt B hb
  clear hb
  go_wp2_with (refine wpList_load_box O9_0 rfl _ _ rfl rfl _ Try.underlying31 rfl (by kernel_rfl) ?_)
  refine (heldSquare_any rX rY A9 g9 0 nn cap9 (1) _ (by omega) (by omega) (by omega) (fun h => (S9.2.1 h).1) S9.2.2 (fun h => (S9.2.1 h).2.2)).mono ?_
  rintro e w34 ⟨rfl, hb⟩
  replace P0 := P0.below hb
  replace S5 := S5.below hb
  replace O5_0 := O5_0.below hb
  replace U0 := U0.below hb
  replace S9 := S9.below hb
  replace O9_0 := O9_0.below hb
  replace S19 := S19.below hb
  replace O19_0 := O19_0.below hb
  replace B := nxt B hb
  clear hb
  go_wp2_with fail
  go_ret
  exact ⟨rfl, B⟩

theorem big2 (X0 Y0 : Int) (A0 : Option Addr) (n0 ca0 : Nat) (c0 : Nat → Int) (A1 : Option Addr) (n1 ca1 : Nat) (c1 : Nat → Int) (A2 : Option Addr) (n2 ca2 : Nat) (c2 : Nat → Int) (w : World)  (hn : 1048576 < n2) (hm : n2 ≤ 9223372036854775807) :
    Calls Try.prog 9 #[.agg #[.int .i8 X0, .int .i8 Y0, .slice A0 n0 ca0], .slice A1 n1 ca1, .slice A2 n2 ca2] w fun e w' => e = .returned (.bool true) ∧ Below w.heap.size w w' := by
  have B : Below w.heap.size w w := Below.refl _ _
  go_enter Try.func9, Try.ntmps9
  have P0 := (Bx.new w #[.int .i8 X0, .int .i8 Y0, .slice A0 n0 ca0] 25)
  replace B := (al B (Obj.cells #[.int .i8 X0, .int .i8 Y0, .slice A0 n0 ca0] 25))
  go_wp2_with fail
  go_ret
  exact ⟨rfl, B⟩

theorem big0 (X0 Y0 : Int) (A0 : Option Addr) (n0 ca0 : Nat) (c0 : Nat → Int) (A1 : Option Addr) (n1 ca1 : Nat) (c1 : Nat → Int) (A2 : Option Addr) (n2 ca2 : Nat) (c2 : Nat → Int) (w : World) (hn2 : n2 ≤ 1048576) (hn : 1048576 < n0) (hm : n0 ≤ 9223372036854775807) :
    Calls Try.prog 9 #[.agg #[.int .i8 X0, .int .i8 Y0, .slice A0 n0 ca0], .slice A1 n1 ca1, .slice A2 n2 ca2] w fun e w' => e = .returned (.bool true) ∧ Below w.heap.size w w' := by
  have B : Below w.heap.size w w := Below.refl _ _
  go_enter Try.func9, Try.ntmps9
  have P0 := (Bx.new w #[.int .i8 X0, .int .i8 Y0, .slice A0 n0 ca0] 25)
  replace B := (al B (Obj.cells #[.int .i8 X0, .int .i8 Y0, .slice A0 n0 ca0] 25))
  go_wp2_with (refine wpList_load_box P0 rfl _ _ rfl rfl _ Try.underlying25 rfl (by kernel_rfl) ?_)
  refine (szSquare_big X0 Y0 (1048576) A0 n0 ca0 _ (by omega) (by omega) (by omega) hm).mono ?_
  rintro e w35 ⟨rfl, hb⟩
  replace P0 := P0.below hb
  replace B := nxt B hb
  clear hb
  go_wp2_with fail
  go_ret
  exact ⟨rfl, B⟩

theorem big1 (X0 Y0 : Int) (A0 : Option Addr) (n0 ca0 : Nat) (c0 : Nat → Int) (A1 : Option Addr) (n1 ca1 : Nat) (c1 : Nat → Int) (A2 : Option Addr) (n2 ca2 : Nat) (c2 : Nat → Int) (w : World) (hn2 : n2 ≤ 1048576) (hn0 : n0 ≤ 1048576) (hn : 1048576 < n0 + n1) (hm : n1 ≤ 9223372036854775807) :
    Calls Try.prog 9 #[.agg #[.int .i8 X0, .int .i8 Y0, .slice A0 n0 ca0], .slice A1 n1 ca1, .slice A2 n2 ca2] w fun e w' => e = .returned (.bool true) ∧ Below w.heap.size w w' := by
  have B : Below w.heap.size w w := Below.refl _ _
  go_enter Try.func9, Try.ntmps9
  have P0 := (Bx.new w #[.int .i8 X0, .int .i8 Y0, .slice A0 n0 ca0] 25)
  replace B := (al B (Obj.cells #[.int .i8 X0, .int .i8 Y0, .slice A0 n0 ca0] 25))
  have hz0 : 0 ≤ 1048576 - (n0 : Int) := by omega
  go_wp2_with (refine wpList_load_box P0 rfl _ _ rfl rfl _ Try.underlying25 rfl (by kernel_rfl) ?_)
  refine (szSquare_ok X0 Y0 (1048576) A0 n0 ca0 _ (by omega) (by omega) (by omega)).mono ?_
  rintro e w36 ⟨rfl, hb⟩
  replace P0 := P0.below hb
  replace B := nxt B hb
  clear hb
  go_wp2_with fail
  refine (szSlabS_big A1 n1 ca1 (1048576 - (n0 : Int)) _ (by omega) (by omega) (by omega) hm).mono ?_
  rintro e w37 ⟨rfl, rfl⟩
  go_wp2_with fail
  go_ret
  exact ⟨rfl, B⟩

theorem walk (X0 Y0 : Int) (A0 : Option Addr) (n0 ca0 : Nat) (c0 : Nat → Int) (A1 : Option Addr) (n1 ca1 : Nat) (c1 : Nat → Int) (A2 : Option Addr) (n2 ca2 : Nat) (c2 : Nat → Int) (w : World) (bX0 : -128 ≤ X0 ∧ X0 ≤ 127) (bY0 : -128 ≤ Y0 ∧ Y0 ≤ 127) (hm0 : n0 ≤ 9223372036854775807) (hc0 : ∀ j, -128 ≤ c0 j ∧ c0 j ≤ 127) (hm1 : n1 ≤ 9223372036854775807) (hc1 : ∀ j, -128 ≤ c1 j ∧ c1 j ≤ 127) (hm2 : n2 ≤ 9223372036854775807) (hc2 : ∀ j, (Lit.int .i64 (c2 j)).wf = true)
    (hr0 : Rd8 w w.heap.size A0 (4 * n0) c0) (hr1 : Rd8 w w.heap.size A1 (4 * n1) c1) (hr2 : RdK .i64 w w.heap.size A2 n2 c2) :
    Calls Try.prog 9 #[.agg #[.int .i8 X0, .int .i8 Y0, .slice A0 n0 ca0], .slice A1 n1 ca1, .slice A2 n2 ca2] w fun e w' => e = .returned (.bool true) ∧ Below w.heap.size w w' := by
  by_cases hn2 : 1048576 < n2
  · exact big2 X0 Y0 A0 n0 ca0 c0 A1 n1 ca1 c1 A2 n2 ca2 c2 w  hn2 hm2
  by_cases hn0 : 1048576 < n0
  · exact big0 X0 Y0 A0 n0 ca0 c0 A1 n1 ca1 c1 A2 n2 ca2 c2 w (by omega) hn0 hm0
  by_cases hn1 : 1048576 < n0 + n1
  · exact big1 X0 Y0 A0 n0 ca0 c0 A1 n1 ca1 c1 A2 n2 ca2 c2 w (by omega) (by omega) hn1 hm1
  obtain ⟨rX, rY, z1, nn, ff, hnn, hS, hI⟩ := both X0 Y0 n0 c0 n1 c1 n2 c2 bX0 bY0 hc0 (by omega) hc1 (by omega) hc2 (by omega)
  exact law X0 Y0 A0 n0 ca0 c0 A1 n1 ca1 c1 A2 n2 ca2 c2 rX rY z1 nn ff w (by omega) (by omega) (by omega) hnn hr0 hr1 hr2 (fun W G0 G1 G2 _ R0 R1 R2 => hS W G0 G1 G2 R0 R1 R2) (fun W G0 G1 G2 _ R0 R1 R2 => hI W G0 G1 G2 R0 R1 R2)

end Go.Proofs.Ytkdakpbkpfigeaa.layAll
