/-
  The walk of the law FnExactJointsAt. Conditions stand at each.
-/
import Derived.Test.YtmkcdelfgaogaaaDoorRows
import Derived.Test.YtmkcdelfgaogaaaDoorSqN
import Derived.Test.YtmkcdelfgaogaaaDoorLawA
import Derived.Test.YtmkcdelfgaogaaaDoorOpens
import Derived.Test.YtmkcdelfgaogaaaDoorJointsAtB
import Derived.Deep.RegionHeld3
import Derived.Deep.DeepCutAuto
import Derived.Lib.SmallJoins
namespace Go.Proofs.YtmkcdelfgaogaaaDoor.jointsAt
open Go Go.ChangeShapes Go.WideShapes Go.ChangeAt Go.RowKit
set_option linter.unusedVariables false
set_option linter.unusedSimpArgs false
set_option maxRecDepth 100000
set_option maxHeartbeats 4000000

theorem law (X0 Y0 : Int) (A0 : Option Addr) (n0 ca0 : Nat) (c0 : Nat → Int) (a1 b1 : Int) (z1 : Int) (nn : Nat) (ff : Nat → Int) (w : World) (hn0 : n0 ≤ 1048576) (hnn : nn ≤ 1000)
    (hr0 : Rd8 w w.heap.size A0 (4 * n0) c0)
    (hS : ∀ (W : World) (G0 : Nat), Below w.heap.size w W → Ab W G0 n0 c0 → 
      Calls Tryd.prog 16 #[.agg #[.int .i8 X0, .int .i8 Y0, .slice (some ⟨G0, 0, none⟩) n0 n0], .agg #[.int .i8 a1, .int .i8 b1]] W fun e w' => Below W.heap.size W w' ∧ ∃ v, e = .returned (.tuple #[v, .int .i64 z1]) ∧ HasSlice .i64 1 w' W.heap.size v nn ff)
    (hI : ∀ (W : World) (G0 : Nat), Below w.heap.size w W → Ab W G0 n0 c0 → 
      Calls Tryd.prog 17 #[.agg #[.int .i8 X0, .int .i8 Y0, .slice (some ⟨G0, 0, none⟩) n0 n0], .agg #[.int .i8 a1, .int .i8 b1]] W fun e w' => Below W.heap.size W w' ∧ ∃ v, e = .returned (.tuple #[v, .int .i64 z1]) ∧ HasSlice .i64 1 w' W.heap.size v nn ff) :
    Calls Tryd.prog 5 #[.agg #[.int .i8 X0, .int .i8 Y0, .slice A0 n0 ca0], .agg #[.int .i8 a1, .int .i8 b1]] w fun e w' => e = .returned (.bool true) ∧ Below w.heap.size w w' := by
  have HS := Lib.hid hS
  have HI := Lib.hid hI
  have HW := Nat.le_refl w.heap.size
  have HR0 := Lib.hid hr0
  have hz0 : 0 ≤ 1048576 - (n0 : Int) := by omega
  have hrr1 : (z1 != z1) = false := by simp
  have B : Below w.heap.size w w := Below.refl _ _
  clear hS hI HW hr0
  go_enter Tryd.func5, Tryd.ntmps5
  have P0 := ((Bx.new w #[.int .i8 X0, .int .i8 Y0, .slice A0 n0 ca0] 25).alloc (Obj.cells #[.int .i8 a1, .int .i8 b1] 27))
  have P1 := (Bx.newAt (w.alloc (Obj.cells #[.int .i8 X0, .int .i8 Y0, .slice A0 n0 ca0] 25)) (w.heap.size + 1) #[.int .i8 a1, .int .i8 b1] 27 (by simp))
  replace B := (al (al B (Obj.cells #[.int .i8 X0, .int .i8 Y0, .slice A0 n0 ca0] 25)) (Obj.cells #[.int .i8 a1, .int .i8 b1] 27))
  go_wp2_with (refine wpList_load_box P0 rfl _ _ rfl rfl _ Tryd.underlying25 rfl (by kernel_rfl) ?_)
  refine (szSquare_ok X0 Y0 (1048576) A0 n0 ca0 _ (by omega) (by omega) (by omega)).mono ?_
  rintro e w1 ⟨rfl, hb⟩
  replace P0 := P0.below hb
  replace P1 := P1.below hb
  replace B := nxt B hb
  clear hb
  go_wp2_with fail
  refine wp_region_held_drew (S := (fun w' : World => Bx w' w.heap.size #[.int .i8 X0, .int .i8 Y0, .slice A0 n0 ca0] 25 ∧ Bx w' (w.heap.size + 1) #[.int .i8 a1, .int .i8 b1] 27)) (by kernel_rfl) ⟨P0, P1⟩ (fun hHeld => ?_)
  replace P0 := P0.drew
  replace P1 := P1.drew
  replace B := B.drew
  obtain ⟨w2, hW⟩ : ∃ W : World, W = w1.drew := ⟨_, rfl⟩
  rw [← hW] at P0 P1 B hHeld ⊢
  clear hW
  refine wpAnyH_take (i := 0) (oi := _) (v := .agg #[.int .i8 X0, .int .i8 Y0, .slice A0 n0 ca0]) rfl (by kernel_rfl) (by kernel_rfl) (by kernel_rfl) (fun _ _ _ h => h) (yields_box (by kernel_rfl) _ _ rfl w.heap.size rfl #[.int .i8 X0, .int .i8 Y0, .slice A0 n0 ca0] 25 (fun _ hS => hS.1) _ Tryd.underlying25 rfl (by kernel_rfl)) (by assumption) ?_
  try simp only [List.getElem_toArray, List.getElem_cons_zero, List.getElem_cons_succ, Act.put, List.setIfInBounds_toArray, List.set_cons_zero, List.set_cons_succ]
  refine wpAnyH_take (i := 2) (oi := _) (v := .agg #[.int .i8 a1, .int .i8 b1]) rfl (by kernel_rfl) (by kernel_rfl) (by kernel_rfl) (fun _ _ _ h => h) (yields_box (by kernel_rfl) _ _ rfl (w.heap.size + 1) rfl #[.int .i8 a1, .int .i8 b1] 27 (fun _ hS => hS.2) _ Tryd.underlying27 rfl (by kernel_rfl)) (by assumption) ?_
  try simp only [List.getElem_toArray, List.getElem_cons_zero, List.getElem_cons_succ, Act.put, List.setIfInBounds_toArray, List.set_cons_zero, List.set_cons_succ]
  refine wpAnyH_ready (rs := [1]) (by kernel_rfl) (by simp) ?_
  refine AllReadyH.cons (o := _) rfl (fun K hK => ?_) AllReadyH.nil
  go_simp
  refine (toSquare_ab X0 Y0 A0 n0 ca0 w.heap.size c0 _ (by omega) B.size (HR0.out.below B)).mono ?_
  rintro e w3 ⟨g50, rfl, hg, hb, R50⟩
  have lt0 : w.heap.size < g50 := Nat.lt_of_lt_of_le P0.lt hg
  have lt1 : (w.heap.size + 1) < g50 := Nat.lt_of_lt_of_le P1.lt hg
  have bzg50 : w.heap.size ≤ g50 := Nat.le_trans B.size hg
  replace P0 := P0.below hb
  replace P1 := P1.below hb
  replace B := nxt B hb
  clear hb
  clear hg
  refine hK.out _ _ ⟨P0, P1⟩ (fun hHeld => ?_)
  clear hK K
  try simp only [List.getElem_toArray, List.getElem_cons_zero, List.getElem_cons_succ, Act.put, List.setIfInBounds_toArray, List.set_cons_zero, List.set_cons_succ]
  refine wpAnyH_ready (rs := [3]) (by kernel_rfl) (by simp) ?_
  refine AllReadyH.cons (o := _) rfl (fun K hK => ?_) AllReadyH.nil
  go_simp
  refine (toCell_any a1 b1 _).mono ?_
  rintro e w4 ⟨rfl, hb⟩
  replace P0 := P0.below hb
  replace P1 := P1.below hb
  replace R50 := R50.below hb
  replace B := nxt B hb
  clear hb
  refine hK.out _ _ ⟨P0, P1⟩ (fun hHeld => ?_)
  clear hK K
  try simp only [List.getElem_toArray, List.getElem_cons_zero, List.getElem_cons_succ, Act.put, List.setIfInBounds_toArray, List.set_cons_zero, List.set_cons_succ]
  refine wpAnyH_ready (rs := [4]) (by kernel_rfl) (by simp) ?_
  refine AllReadyH.cons (o := _) rfl (fun K hK => ?_) AllReadyH.nil
  go_simp
  refine (HS.out _ g50 B R50).mono ?_
  rintro e w5 ⟨hb, v5, rfl, A5, g5, cap5, S5⟩
  obtain rfl := S5.1
  have lt2 : 0 < nn → w.heap.size < g5 := fun h2 => Nat.lt_of_lt_of_le P0.lt (S5.2.1 h2).2.1
  have lt3 : 0 < nn → (w.heap.size + 1) < g5 := fun h2 => Nat.lt_of_lt_of_le P1.lt (S5.2.1 h2).2.1
  have lt4 : 0 < nn → g50 < g5 := fun h2 => Nat.lt_of_lt_of_le R50.1 (S5.2.1 h2).2.1
  have bzg5 : 0 < nn → w.heap.size ≤ g5 := fun h => Nat.le_trans B.size (S5.2.1 h).2.1
  replace P0 := P0.below hb
  replace P1 := P1.below hb
  replace R50 := R50.below hb
  replace B := nxt B hb
  clear hb
  refine hK.out _ _ ⟨P0, P1⟩ (fun hHeld => ?_)
  clear hK K
  try simp only [List.getElem_toArray, List.getElem_cons_zero, List.getElem_cons_succ, Act.put, List.setIfInBounds_toArray, List.set_cons_zero, List.set_cons_succ]
  refine wpAnyH_take (i := 5) (oi := _) (v := ?_) rfl (by kernel_rfl) (by kernel_rfl) (by kernel_rfl) (fun _ _ _ h => h) (Or.inl ⟨by kernel_rfl, ?_⟩) (by assumption) ?_
  rotate_left
  · intro w hSw; (try dsimp only at hSw); go_simp; first | done | with_reducible rfl
  try simp only [List.getElem_toArray, List.getElem_cons_zero, List.getElem_cons_succ, Act.put, List.setIfInBounds_toArray, List.set_cons_zero, List.set_cons_succ]
  refine wpAnyH_take (i := 6) (oi := _) (v := ?_) rfl (by kernel_rfl) (by kernel_rfl) (by kernel_rfl) (fun _ _ _ h => h) (Or.inl ⟨by kernel_rfl, ?_⟩) (by assumption) ?_
  rotate_left
  · intro w hSw; (try dsimp only at hSw); go_simp; first | done | with_reducible rfl
  try simp only [List.getElem_toArray, List.getElem_cons_zero, List.getElem_cons_succ, Act.put, List.setIfInBounds_toArray, List.set_cons_zero, List.set_cons_succ]
  refine wpAnyH_take (i := 7) (oi := _) (v := ?_) rfl (by kernel_rfl) (by kernel_rfl) (by kernel_rfl) (fun _ _ _ h => h) (Or.inl ⟨by kernel_rfl, ?_⟩) (by assumption) ?_
  rotate_left
  · intro w hSw; (try dsimp only at hSw); go_simp; first | done | with_reducible rfl
  try simp only [List.getElem_toArray, List.getElem_cons_zero, List.getElem_cons_succ, Act.put, List.setIfInBounds_toArray, List.set_cons_zero, List.set_cons_succ]
  refine wpAnyH_take (i := 8) (oi := _) (v := ?_) rfl (by kernel_rfl) (by kernel_rfl) (by kernel_rfl) (fun _ _ _ h => h) (Or.inl ⟨by kernel_rfl, ?_⟩) (by assumption) ?_
  rotate_left
  · intro w hSw; (try dsimp only at hSw); go_simp; first | done | with_reducible rfl
  try simp only [List.getElem_toArray, List.getElem_cons_zero, List.getElem_cons_succ, Act.put, List.setIfInBounds_toArray, List.set_cons_zero, List.set_cons_succ]
  refine wpAnyH_take (i := 9) (oi := _) (v := ?_) rfl (by kernel_rfl) (by kernel_rfl) (by kernel_rfl) (fun _ _ _ h => h) (Or.inl ⟨by kernel_rfl, ?_⟩) (by assumption) ?_
  rotate_left
  · intro w hSw; (try dsimp only at hSw); go_simp; first | done | with_reducible rfl
  try simp only [List.getElem_toArray, List.getElem_cons_zero, List.getElem_cons_succ, Act.put, List.setIfInBounds_toArray, List.set_cons_zero, List.set_cons_succ]
  refine wpAnyH_done (by kernel_rfl) ?_ _
  clear R50
  go_wp2_with (refine wpList_load_box P0 rfl _ _ rfl rfl _ Tryd.underlying25 rfl (by kernel_rfl) ?_)
  refine (toSquare_ab X0 Y0 A0 n0 ca0 w.heap.size c0 _ (by omega) B.size (HR0.out.below B)).mono ?_
  rintro e w6 ⟨g70, rfl, hg, hb, R70⟩
  have lt5 : w.heap.size < g70 := Nat.lt_of_lt_of_le P0.lt hg
  have lt6 : (w.heap.size + 1) < g70 := Nat.lt_of_lt_of_le P1.lt hg
  have lt7 : 0 < nn → g5 < g70 := fun h => Nat.lt_of_lt_of_le (S5.2.1 h).2.2 hg
  have bzg70 : w.heap.size ≤ g70 := Nat.le_trans B.size hg
  replace P0 := P0.below hb
  replace P1 := P1.below hb
  replace S5 := S5.below hb
  replace B := nxt B hb
  clear hb
  clear hg
  go_wp2_with fail
  have lt8 : w.heap.size < w6.heap.size := P0.lt
  have lt9 : (w.heap.size + 1) < w6.heap.size := P1.lt
  have lt10 : 0 < nn → g5 < w6.heap.size := fun h => (S5.2.1 h).2.2
  have lt11 : g70 < w6.heap.size := R70.1
  have U0 := Bx.newAt w6 (w6.heap.size) #[.int .i8 X0, .int .i8 Y0, .slice (some ⟨g70, 0, none⟩) n0 n0] 33 (by simp)
  replace P0 := P0.alloc (.cells #[.int .i8 X0, .int .i8 Y0, .slice (some ⟨g70, 0, none⟩) n0 n0] 33)
  replace P1 := P1.alloc (.cells #[.int .i8 X0, .int .i8 Y0, .slice (some ⟨g70, 0, none⟩) n0 n0] 33)
  replace S5 := S5.alloc (.cells #[.int .i8 X0, .int .i8 Y0, .slice (some ⟨g70, 0, none⟩) n0 n0] 33)
  replace R70 := R70.alloc (.cells #[.int .i8 X0, .int .i8 Y0, .slice (some ⟨g70, 0, none⟩) n0 n0] 33)
  replace B := al B (.cells #[.int .i8 X0, .int .i8 Y0, .slice (some ⟨g70, 0, none⟩) n0 n0] 33)
  obtain ⟨w7, hW⟩ : ∃ W : World, W = (w6.alloc (.cells #[.int .i8 X0, .int .i8 Y0, .slice (some ⟨g70, 0, none⟩) n0 n0] 33)) := ⟨_, rfl⟩
  rw [← hW] at P0 P1 S5 R70 U0 B ⊢
  clear hW
  go_wp2_with fail
  refine wp_region_held_drew (S := (fun w' : World => Bx w' w6.heap.size #[.int .i8 X0, .int .i8 Y0, .slice (some ⟨g70, 0, none⟩) n0 n0] 33 ∧ Bx w' (w.heap.size + 1) #[.int .i8 a1, .int .i8 b1] 27)) (by kernel_rfl) ⟨U0, P1⟩ (fun hHeld => ?_)
  replace P0 := P0.drew
  replace P1 := P1.drew
  replace S5 := S5.drew
  replace R70 := R70.drew
  replace U0 := U0.drew
  replace B := B.drew
  obtain ⟨w8, hW⟩ : ∃ W : World, W = w7.drew := ⟨_, rfl⟩
  rw [← hW] at P0 P1 S5 R70 U0 B hHeld ⊢
  clear hW
  refine wpAnyH_take (i := 0) (oi := _) (v := .agg #[.int .i8 X0, .int .i8 Y0, .slice (some ⟨g70, 0, none⟩) n0 n0]) rfl (by kernel_rfl) (by kernel_rfl) (by kernel_rfl) (fun _ _ _ h => h) (yields_box (by kernel_rfl) _ _ rfl w6.heap.size rfl #[.int .i8 X0, .int .i8 Y0, .slice (some ⟨g70, 0, none⟩) n0 n0] 33 (fun _ hS => hS.1) _ Tryd.underlying33 rfl (by kernel_rfl)) (by assumption) ?_
  try simp only [List.getElem_toArray, List.getElem_cons_zero, List.getElem_cons_succ, Act.put, List.setIfInBounds_toArray, List.set_cons_zero, List.set_cons_succ]
  refine wpAnyH_take (i := 1) (oi := _) (v := .agg #[.int .i8 a1, .int .i8 b1]) rfl (by kernel_rfl) (by kernel_rfl) (by kernel_rfl) (fun _ _ _ h => h) (yields_box (by kernel_rfl) _ _ rfl (w.heap.size + 1) rfl #[.int .i8 a1, .int .i8 b1] 27 (fun _ hS => hS.2) _ Tryd.underlying27 rfl (by kernel_rfl)) (by assumption) ?_
  try simp only [List.getElem_toArray, List.getElem_cons_zero, List.getElem_cons_succ, Act.put, List.setIfInBounds_toArray, List.set_cons_zero, List.set_cons_succ]
  refine wpAnyH_ready (rs := [2]) (by kernel_rfl) (by simp) ?_
  refine AllReadyH.cons (o := _) rfl (fun K hK => ?_) AllReadyH.nil
  go_simp
  refine (toCell_any a1 b1 _).mono ?_
  rintro e w9 ⟨rfl, hb⟩
  replace P0 := P0.below hb
  replace P1 := P1.below hb
  replace S5 := S5.below hb
  replace R70 := R70.below hb
  replace U0 := U0.below hb
  replace B := nxt B hb
  clear hb
  refine hK.out _ _ ⟨U0, P1⟩ (fun hHeld => ?_)
  clear hK K
  try simp only [List.getElem_toArray, List.getElem_cons_zero, List.getElem_cons_succ, Act.put, List.setIfInBounds_toArray, List.set_cons_zero, List.set_cons_succ]
  refine wpAnyH_ready (rs := [3]) (by kernel_rfl) (by simp) ?_
  refine AllReadyH.cons (o := _) rfl (fun K hK => ?_) AllReadyH.nil
  go_simp
  refine (HI.out _ g70 B R70).mono ?_
  rintro e w10 ⟨hb, v9, rfl, A9, g9, cap9, S9⟩
  obtain rfl := S9.1
  have lt12 : 0 < nn → w.heap.size < g9 := fun h2 => Nat.lt_of_lt_of_le P0.lt (S9.2.1 h2).2.1
  have lt13 : 0 < nn → (w.heap.size + 1) < g9 := fun h2 => Nat.lt_of_lt_of_le P1.lt (S9.2.1 h2).2.1
  have lt14 : 0 < nn → 0 < nn → g5 < g9 := fun h h2 => Nat.lt_of_lt_of_le (S5.2.1 h).2.2 (S9.2.1 h2).2.1
  have lt15 : 0 < nn → g70 < g9 := fun h2 => Nat.lt_of_lt_of_le R70.1 (S9.2.1 h2).2.1
  have lt16 : 0 < nn → w6.heap.size < g9 := fun h2 => Nat.lt_of_lt_of_le U0.lt (S9.2.1 h2).2.1
  have bzg9 : 0 < nn → w.heap.size ≤ g9 := fun h => Nat.le_trans B.size (S9.2.1 h).2.1
  replace P0 := P0.below hb
  replace P1 := P1.below hb
  replace S5 := S5.below hb
  replace R70 := R70.below hb
  replace U0 := U0.below hb
  replace B := nxt B hb
  clear hb
  refine hK.out _ _ ⟨U0, P1⟩ (fun hHeld => ?_)
  clear hK K
  try simp only [List.getElem_toArray, List.getElem_cons_zero, List.getElem_cons_succ, Act.put, List.setIfInBounds_toArray, List.set_cons_zero, List.set_cons_succ]
  refine wpAnyH_take (i := 4) (oi := _) (v := ?_) rfl (by kernel_rfl) (by kernel_rfl) (by kernel_rfl) (fun _ _ _ h => h) (Or.inl ⟨by kernel_rfl, ?_⟩) (by assumption) ?_
  rotate_left
  · intro w hSw; (try dsimp only at hSw); go_simp; first | done | with_reducible rfl
  try simp only [List.getElem_toArray, List.getElem_cons_zero, List.getElem_cons_succ, Act.put, List.setIfInBounds_toArray, List.set_cons_zero, List.set_cons_succ]
  refine wpAnyH_take (i := 5) (oi := _) (v := ?_) rfl (by kernel_rfl) (by kernel_rfl) (by kernel_rfl) (fun _ _ _ h => h) (Or.inl ⟨by kernel_rfl, ?_⟩) (by assumption) ?_
  rotate_left
  · intro w hSw; (try dsimp only at hSw); go_simp; first | done | with_reducible rfl
  try simp only [List.getElem_toArray, List.getElem_cons_zero, List.getElem_cons_succ, Act.put, List.setIfInBounds_toArray, List.set_cons_zero, List.set_cons_succ]
  refine wpAnyH_take (i := 6) (oi := _) (v := ?_) rfl (by kernel_rfl) (by kernel_rfl) (by kernel_rfl) (fun _ _ _ h => h) (Or.inl ⟨by kernel_rfl, ?_⟩) (by assumption) ?_
  rotate_left
  · intro w hSw; (try dsimp only at hSw); go_simp; first | done | with_reducible rfl
  try simp only [List.getElem_toArray, List.getElem_cons_zero, List.getElem_cons_succ, Act.put, List.setIfInBounds_toArray, List.set_cons_zero, List.set_cons_succ]
  refine wpAnyH_take (i := 7) (oi := _) (v := ?_) rfl (by kernel_rfl) (by kernel_rfl) (by kernel_rfl) (fun _ _ _ h => h) (Or.inl ⟨by kernel_rfl, ?_⟩) (by assumption) ?_
  rotate_left
  · intro w hSw; (try dsimp only at hSw); go_simp; first | done | with_reducible rfl
  try simp only [List.getElem_toArray, List.getElem_cons_zero, List.getElem_cons_succ, Act.put, List.setIfInBounds_toArray, List.set_cons_zero, List.set_cons_succ]
  refine wpAnyH_take (i := 8) (oi := _) (v := ?_) rfl (by kernel_rfl) (by kernel_rfl) (by kernel_rfl) (fun _ _ _ h => h) (Or.inl ⟨by kernel_rfl, ?_⟩) (by assumption) ?_
  rotate_left
  · intro w hSw; (try dsimp only at hSw); go_simp; first | done | with_reducible rfl
  try simp only [List.getElem_toArray, List.getElem_cons_zero, List.getElem_cons_succ, Act.put, List.setIfInBounds_toArray, List.set_cons_zero, List.set_cons_succ]
  refine wpAnyH_done (by kernel_rfl) ?_ _
  go_wp2_with fail
  refine (eqInt64S_any A9 A5 nn nn cap9 cap5 _ ff ff _ (by omega) (by omega) (Nat.le_refl _) (S9.rdN) (S5.rdN) ⟨rfl, fun _ _ => rfl⟩).mono ?_
  rintro e w11 ⟨rfl, hb⟩
  replace P0 := P0.below hb
  replace P1 := P1.below hb
  replace S5 := S5.below hb
  replace R70 := R70.below hb
  replace U0 := U0.below hb
  replace S9 := S9.below hb
  replace B := nxt B hb
  clear hb
  go_wp2_with fail
  refine wp_region_held_drew (S := (fun w' : World => Bx w' w6.heap.size #[.int .i8 X0, .int .i8 Y0, .slice (some ⟨g70, 0, none⟩) n0 n0] 33 ∧ Bx w' w.heap.size #[.int .i8 X0, .int .i8 Y0, .slice A0 n0 ca0] 25)) (by kernel_rfl) ⟨U0, P0⟩ (fun hHeld => ?_)
  replace P0 := P0.drew
  replace P1 := P1.drew
  replace S5 := S5.drew
  replace R70 := R70.drew
  replace U0 := U0.drew
  replace S9 := S9.drew
  replace B := B.drew
  obtain ⟨w12, hW⟩ : ∃ W : World, W = w11.drew := ⟨_, rfl⟩
  rw [← hW] at P0 P1 S5 R70 U0 S9 B hHeld ⊢
  clear hW
  refine wpAnyH_take (i := 0) (oi := _) (v := .agg #[.int .i8 X0, .int .i8 Y0, .slice (some ⟨g70, 0, none⟩) n0 n0]) rfl (by kernel_rfl) (by kernel_rfl) (by kernel_rfl) (fun _ _ _ h => h) (yields_box (by kernel_rfl) _ _ rfl w6.heap.size rfl #[.int .i8 X0, .int .i8 Y0, .slice (some ⟨g70, 0, none⟩) n0 n0] 33 (fun _ hS => hS.1) _ Tryd.underlying33 rfl (by kernel_rfl)) (by assumption) ?_
  try simp only [List.getElem_toArray, List.getElem_cons_zero, List.getElem_cons_succ, Act.put, List.setIfInBounds_toArray, List.set_cons_zero, List.set_cons_succ]
  refine wpAnyH_take (i := 1) (oi := _) (v := .agg #[.int .i8 X0, .int .i8 Y0, .slice A0 n0 ca0]) rfl (by kernel_rfl) (by kernel_rfl) (by kernel_rfl) (fun _ _ _ h => h) (yields_box (by kernel_rfl) _ _ rfl w.heap.size rfl #[.int .i8 X0, .int .i8 Y0, .slice A0 n0 ca0] 25 (fun _ hS => hS.2) _ Tryd.underlying25 rfl (by kernel_rfl)) (by assumption) ?_
  try simp only [List.getElem_toArray, List.getElem_cons_zero, List.getElem_cons_succ, Act.put, List.setIfInBounds_toArray, List.set_cons_zero, List.set_cons_succ]
  refine wpAnyH_ready (rs := [2]) (by kernel_rfl) (by simp) ?_
  refine AllReadyH.cons (o := _) rfl (fun K hK => ?_) AllReadyH.nil
  go_simp
  refine (toSquare_ab X0 Y0 A0 n0 ca0 w.heap.size c0 _ (by omega) B.size (HR0.out.below B)).mono ?_
  rintro e w13 ⟨gc0, rfl, hg, hb, Rc0⟩
  replace P0 := P0.below hb
  replace P1 := P1.below hb
  replace S5 := S5.below hb
  replace R70 := R70.below hb
  replace U0 := U0.below hb
  replace S9 := S9.below hb
  replace B := nxt B hb
  clear hb
  clear hg
  refine hK.out _ _ ⟨U0, P0⟩ (fun hHeld => ?_)
  clear hK K
  try simp only [List.getElem_toArray, List.getElem_cons_zero, List.getElem_cons_succ, Act.put, List.setIfInBounds_toArray, List.set_cons_zero, List.set_cons_succ]
  refine wpAnyH_ready (rs := [3]) (by kernel_rfl) (by simp) ?_
  refine AllReadyH.cons (o := _) rfl (fun K hK => ?_) AllReadyH.nil
  go_simp
  refine (eqSquare_yes X0 Y0 (some ⟨g70, 0, none⟩) (some ⟨gc0, 0, none⟩) n0 n0 n0 n0 _ c0 c0 _ (by omega) (by omega) (Nat.le_refl _) R70.rd Rc0.rd ⟨rfl, fun _ _ => rfl⟩).mono ?_
  rintro e w14 ⟨rfl, hb⟩
  replace P0 := P0.below hb
  replace P1 := P1.below hb
  replace S5 := S5.below hb
  replace R70 := R70.below hb
  replace U0 := U0.below hb
  replace S9 := S9.below hb
  replace Rc0 := Rc0.below hb
  replace B := nxt B hb
  clear hb
  refine hK.out _ _ ⟨U0, P0⟩ (fun hHeld => ?_)
  clear hK K
  try simp only [List.getElem_toArray, List.getElem_cons_zero, List.getElem_cons_succ, Act.put, List.setIfInBounds_toArray, List.set_cons_zero, List.set_cons_succ]
  refine wpAnyH_take (i := 4) (oi := _) (v := ?_) rfl (by kernel_rfl) (by kernel_rfl) (by kernel_rfl) (fun _ _ _ h => h) (Or.inl ⟨by kernel_rfl, ?_⟩) (by assumption) ?_
  rotate_left
  · intro w hSw; (try dsimp only at hSw); go_simp; first | done | with_reducible rfl
  try simp only [List.getElem_toArray, List.getElem_cons_zero, List.getElem_cons_succ, Act.put, List.setIfInBounds_toArray, List.set_cons_zero, List.set_cons_succ]
  refine wpAnyH_done (by kernel_rfl) ?_ _
  clear Rc0
  go_wp2_with (refine wpList_load_box U0 rfl _ _ rfl rfl _ Tryd.underlying33 rfl (by kernel_rfl) ?_)
  refine (markSquare_ab X0 Y0 (some ⟨g70, 0, none⟩) g70 0 n0 n0 c0 (1) _ (by omega) (by omega) (by omega) (fun _ => rfl) (fun _ => R70.1) R70.2).mono ?_
  rintro e w15 ⟨rfl, hgr, _⟩
  replace P0 := P0.of_block (blockG hgr P0.lt (fun hm => by have := lt5; omega))
  replace P1 := P1.of_block (blockG hgr P1.lt (fun hm => by have := lt6; omega))
  replace S5 := S5.kept hgr.size (fun h => blockG hgr (S5.2.1 h).2.2 (fun hm => by have := (lt7 h); omega))
  replace U0 := U0.of_block (blockG hgr U0.lt (fun hm => by have := lt11; omega))
  replace S9 := S9.kept hgr.size (fun h => blockG hgr (S9.2.1 h).2.2 (fun hm => by have := (lt15 h); omega))
  replace B := below_rowOf B hgr B.size (fun _ => bzg70)
  clear hgr
  clear R70
  have hyy0 : 0 ≤ 1 + 4 * (n0 : Int) := by omega
  go_wp2_with fail
  refine (eqInt64S_any A9 A5 nn nn cap9 cap5 _ ff ff _ (by omega) (by omega) (Nat.le_refl _) (S9.rdN) (S5.rdN) ⟨rfl, fun _ _ => rfl⟩).mono ?_
  rintro e w16 ⟨rfl, hb⟩
  replace P0 := P0.below hb
  replace P1 := P1.below hb
  replace S5 := S5.below hb
  replace U0 := U0.below hb
  replace S9 := S9.below hb
  replace B := nxt B hb
  clear hb
  have hkk : (1 + (nn : Int) != 1 + (nn : Int)) = false := by simp
  go_wp2_with fail
  have hk90 : 0 ≤ 1 + (nn : Int) := by omega
  refine (markInt64S_any A9 g9 0 nn cap9 ff (1) _ (by omega) (by omega) (by omega) (fun h => (S9.2.1 h).1) S9.own).mono ?_
  rintro e w17 ⟨rfl, hgr, ho⟩
  replace P0 := P0.of_block (blockG hgr P0.lt (fun hm => by have := (lt12 hm); omega))
  replace P1 := P1.of_block (blockG hgr P1.lt (fun hm => by have := (lt13 hm); omega))
  replace S5 := S5.kept hgr.size (fun h => blockG hgr (S5.2.1 h).2.2 (fun hm => by have := (lt14 hm hm); omega))
  replace U0 := U0.of_block (blockG hgr U0.lt (fun hm => by have := (lt16 hm); omega))
  replace S9 := S9.marked hgr.size (by first | exact ho | simpa using ho)
  replace B := below_rowOf B hgr B.size bzg9
  clear hgr ho
  go_wp2_with fail
  refine (heldInt64S_any A9 g9 0 nn cap9 (1) _ (by omega) (by omega) (by omega) (fun h => (S9.2.1 h).1) S9.own).mono ?_
  rintro e w18 ⟨rfl, rfl⟩
  go_wp2_with fail
  refine wp_region_held_drew (S := (fun w' : World => Bx w' w.heap.size #[.int .i8 X0, .int .i8 Y0, .slice A0 n0 ca0] 25 ∧ Bx w' (w.heap.size + 1) #[.int .i8 a1, .int .i8 b1] 27)) (by kernel_rfl) ⟨P0, P1⟩ (fun hHeld => ?_)
  replace P0 := P0.drew
  replace P1 := P1.drew
  replace S5 := S5.drew
  replace U0 := U0.drew
  replace S9 := S9.drew
  replace B := B.drew
  obtain ⟨w19, hW⟩ : ∃ W : World, W = w18.drew := ⟨_, rfl⟩
  rw [← hW] at P0 P1 S5 U0 S9 B hHeld ⊢
  clear hW
  refine wpAnyH_take (i := 0) (oi := _) (v := .agg #[.int .i8 X0, .int .i8 Y0, .slice A0 n0 ca0]) rfl (by kernel_rfl) (by kernel_rfl) (by kernel_rfl) (fun _ _ _ h => h) (yields_box (by kernel_rfl) _ _ rfl w.heap.size rfl #[.int .i8 X0, .int .i8 Y0, .slice A0 n0 ca0] 25 (fun _ hS => hS.1) _ Tryd.underlying25 rfl (by kernel_rfl)) (by assumption) ?_
  try simp only [List.getElem_toArray, List.getElem_cons_zero, List.getElem_cons_succ, Act.put, List.setIfInBounds_toArray, List.set_cons_zero, List.set_cons_succ]
  refine wpAnyH_take (i := 2) (oi := _) (v := .agg #[.int .i8 a1, .int .i8 b1]) rfl (by kernel_rfl) (by kernel_rfl) (by kernel_rfl) (fun _ _ _ h => h) (yields_box (by kernel_rfl) _ _ rfl (w.heap.size + 1) rfl #[.int .i8 a1, .int .i8 b1] 27 (fun _ hS => hS.2) _ Tryd.underlying27 rfl (by kernel_rfl)) (by assumption) ?_
  try simp only [List.getElem_toArray, List.getElem_cons_zero, List.getElem_cons_succ, Act.put, List.setIfInBounds_toArray, List.set_cons_zero, List.set_cons_succ]
  refine wpAnyH_ready (rs := [1]) (by kernel_rfl) (by simp) ?_
  refine AllReadyH.cons (o := _) rfl (fun K hK => ?_) AllReadyH.nil
  go_simp
  refine (toSquare_ab X0 Y0 A0 n0 ca0 w.heap.size c0 _ (by omega) B.size (HR0.out.below B)).mono ?_
  rintro e w20 ⟨g190, rfl, hg, hb, R190⟩
  have lt17 : w.heap.size < g190 := Nat.lt_of_lt_of_le P0.lt hg
  have lt18 : (w.heap.size + 1) < g190 := Nat.lt_of_lt_of_le P1.lt hg
  have lt19 : 0 < nn → g5 < g190 := fun h => Nat.lt_of_lt_of_le (S5.2.1 h).2.2 hg
  have lt20 : w6.heap.size < g190 := Nat.lt_of_lt_of_le U0.lt hg
  have lt21 : 0 < nn → g9 < g190 := fun h => Nat.lt_of_lt_of_le (S9.2.1 h).2.2 hg
  have bzg190 : w.heap.size ≤ g190 := Nat.le_trans B.size hg
  replace P0 := P0.below hb
  replace P1 := P1.below hb
  replace S5 := S5.below hb
  replace U0 := U0.below hb
  replace S9 := S9.below hb
  replace B := nxt B hb
  clear hb
  clear hg
  refine hK.out _ _ ⟨P0, P1⟩ (fun hHeld => ?_)
  clear hK K
  try simp only [List.getElem_toArray, List.getElem_cons_zero, List.getElem_cons_succ, Act.put, List.setIfInBounds_toArray, List.set_cons_zero, List.set_cons_succ]
  refine wpAnyH_ready (rs := [3]) (by kernel_rfl) (by simp) ?_
  refine AllReadyH.cons (o := _) rfl (fun K hK => ?_) AllReadyH.nil
  go_simp
  refine (toCell_any a1 b1 _).mono ?_
  rintro e w21 ⟨rfl, hb⟩
  replace P0 := P0.below hb
  replace P1 := P1.below hb
  replace S5 := S5.below hb
  replace U0 := U0.below hb
  replace S9 := S9.below hb
  replace R190 := R190.below hb
  replace B := nxt B hb
  clear hb
  refine hK.out _ _ ⟨P0, P1⟩ (fun hHeld => ?_)
  clear hK K
  try simp only [List.getElem_toArray, List.getElem_cons_zero, List.getElem_cons_succ, Act.put, List.setIfInBounds_toArray, List.set_cons_zero, List.set_cons_succ]
  refine wpAnyH_ready (rs := [4]) (by kernel_rfl) (by simp) ?_
  refine AllReadyH.cons (o := _) rfl (fun K hK => ?_) AllReadyH.nil
  go_simp
  refine (HI.out _ g190 B R190).mono ?_
  rintro e w22 ⟨hb, v19, rfl, A19, g19, cap19, S19⟩
  obtain rfl := S19.1
  have lt22 : 0 < nn → w.heap.size < g19 := fun h2 => Nat.lt_of_lt_of_le P0.lt (S19.2.1 h2).2.1
  have lt23 : 0 < nn → (w.heap.size + 1) < g19 := fun h2 => Nat.lt_of_lt_of_le P1.lt (S19.2.1 h2).2.1
  have lt24 : 0 < nn → 0 < nn → g5 < g19 := fun h h2 => Nat.lt_of_lt_of_le (S5.2.1 h).2.2 (S19.2.1 h2).2.1
  have lt25 : 0 < nn → w6.heap.size < g19 := fun h2 => Nat.lt_of_lt_of_le U0.lt (S19.2.1 h2).2.1
  have lt26 : 0 < nn → 0 < nn → g9 < g19 := fun h h2 => Nat.lt_of_lt_of_le (S9.2.1 h).2.2 (S19.2.1 h2).2.1
  have lt27 : 0 < nn → g190 < g19 := fun h2 => Nat.lt_of_lt_of_le R190.1 (S19.2.1 h2).2.1
  have bzg19 : 0 < nn → w.heap.size ≤ g19 := fun h => Nat.le_trans B.size (S19.2.1 h).2.1
  replace P0 := P0.below hb
  replace P1 := P1.below hb
  replace S5 := S5.below hb
  replace U0 := U0.below hb
  replace S9 := S9.below hb
  replace R190 := R190.below hb
  replace B := nxt B hb
  clear hb
  refine hK.out _ _ ⟨P0, P1⟩ (fun hHeld => ?_)
  clear hK K
  try simp only [List.getElem_toArray, List.getElem_cons_zero, List.getElem_cons_succ, Act.put, List.setIfInBounds_toArray, List.set_cons_zero, List.set_cons_succ]
  refine wpAnyH_take (i := 5) (oi := _) (v := ?_) rfl (by kernel_rfl) (by kernel_rfl) (by kernel_rfl) (fun _ _ _ h => h) (Or.inl ⟨by kernel_rfl, ?_⟩) (by assumption) ?_
  rotate_left
  · intro w hSw; (try dsimp only at hSw); go_simp; first | done | with_reducible rfl
  try simp only [List.getElem_toArray, List.getElem_cons_zero, List.getElem_cons_succ, Act.put, List.setIfInBounds_toArray, List.set_cons_zero, List.set_cons_succ]
  refine wpAnyH_take (i := 6) (oi := _) (v := ?_) rfl (by kernel_rfl) (by kernel_rfl) (by kernel_rfl) (fun _ _ _ h => h) (Or.inl ⟨by kernel_rfl, ?_⟩) (by assumption) ?_
  rotate_left
  · intro w hSw; (try dsimp only at hSw); go_simp; first | done | with_reducible rfl
  try simp only [List.getElem_toArray, List.getElem_cons_zero, List.getElem_cons_succ, Act.put, List.setIfInBounds_toArray, List.set_cons_zero, List.set_cons_succ]
  refine wpAnyH_take (i := 7) (oi := _) (v := ?_) rfl (by kernel_rfl) (by kernel_rfl) (by kernel_rfl) (fun _ _ _ h => h) (Or.inl ⟨by kernel_rfl, ?_⟩) (by assumption) ?_
  rotate_left
  · intro w hSw; (try dsimp only at hSw); go_simp; first | done | with_reducible rfl
  try simp only [List.getElem_toArray, List.getElem_cons_zero, List.getElem_cons_succ, Act.put, List.setIfInBounds_toArray, List.set_cons_zero, List.set_cons_succ]
  refine wpAnyH_take (i := 8) (oi := _) (v := ?_) rfl (by kernel_rfl) (by kernel_rfl) (by kernel_rfl) (fun _ _ _ h => h) (Or.inl ⟨by kernel_rfl, ?_⟩) (by assumption) ?_
  rotate_left
  · intro w hSw; (try dsimp only at hSw); go_simp; first | done | with_reducible rfl
  try simp only [List.getElem_toArray, List.getElem_cons_zero, List.getElem_cons_succ, Act.put, List.setIfInBounds_toArray, List.set_cons_zero, List.set_cons_succ]
  refine wpAnyH_take (i := 9) (oi := _) (v := ?_) rfl (by kernel_rfl) (by kernel_rfl) (by kernel_rfl) (fun _ _ _ h => h) (Or.inl ⟨by kernel_rfl, ?_⟩) (by assumption) ?_
  rotate_left
  · intro w hSw; (try dsimp only at hSw); go_simp; first | done | with_reducible rfl
  try simp only [List.getElem_toArray, List.getElem_cons_zero, List.getElem_cons_succ, Act.put, List.setIfInBounds_toArray, List.set_cons_zero, List.set_cons_succ]
  refine wpAnyH_done (by kernel_rfl) ?_ _
  clear R190
  go_wp2_with fail
  refine (eqInt64S_any A19 A5 nn nn cap19 cap5 _ ff ff _ (by omega) (by omega) (Nat.le_refl _) (S19.rdN) (S5.rdN) ⟨rfl, fun _ _ => rfl⟩).mono ?_
  rintro e w23 ⟨rfl, hb⟩
  replace P0 := P0.below hb
  replace P1 := P1.below hb
  replace S5 := S5.below hb
  replace U0 := U0.below hb
  replace S9 := S9.below hb
  replace S19 := S19.below hb
  replace B := nxt B hb
  clear hb
  go_wp2_with fail
  refine (heldInt64S_any A9 g9 0 nn cap9 (1) _ (by omega) (by omega) (by omega) (fun h => (S9.2.1 h).1) S9.own).mono ?_
  rintro e w24 ⟨rfl, rfl⟩
  go_wp2_with fail
  go_ret
  exact ⟨rfl, B⟩

theorem big0 (X0 Y0 : Int) (A0 : Option Addr) (n0 ca0 : Nat) (c0 : Nat → Int) (a1 b1 : Int) (w : World)  (hn : 1048576 < n0) (hm : n0 ≤ 9223372036854775807) :
    Calls Tryd.prog 5 #[.agg #[.int .i8 X0, .int .i8 Y0, .slice A0 n0 ca0], .agg #[.int .i8 a1, .int .i8 b1]] w fun e w' => e = .returned (.bool true) ∧ Below w.heap.size w w' := by
  have B : Below w.heap.size w w := Below.refl _ _
  go_enter Tryd.func5, Tryd.ntmps5
  have P0 := ((Bx.new w #[.int .i8 X0, .int .i8 Y0, .slice A0 n0 ca0] 25).alloc (Obj.cells #[.int .i8 a1, .int .i8 b1] 27))
  have P1 := (Bx.newAt (w.alloc (Obj.cells #[.int .i8 X0, .int .i8 Y0, .slice A0 n0 ca0] 25)) (w.heap.size + 1) #[.int .i8 a1, .int .i8 b1] 27 (by simp))
  replace B := (al (al B (Obj.cells #[.int .i8 X0, .int .i8 Y0, .slice A0 n0 ca0] 25)) (Obj.cells #[.int .i8 a1, .int .i8 b1] 27))
  go_wp2_with (refine wpList_load_box P0 rfl _ _ rfl rfl _ Tryd.underlying25 rfl (by kernel_rfl) ?_)
  refine (szSquare_big X0 Y0 (1048576) A0 n0 ca0 _ (by omega) (by omega) (by omega) hm).mono ?_
  rintro e w25 ⟨rfl, hb⟩
  replace P0 := P0.below hb
  replace P1 := P1.below hb
  replace B := nxt B hb
  clear hb
  go_wp2_with fail
  go_ret
  exact ⟨rfl, B⟩

theorem walk (X0 Y0 : Int) (A0 : Option Addr) (n0 ca0 : Nat) (c0 : Nat → Int) (a1 b1 : Int) (s0_ s1_ s2_ : Addr) (w : World) (bX0 : -128 ≤ X0 ∧ X0 ≤ 127) (bY0 : -128 ≤ Y0 ∧ Y0 ≤ 127) (hm0 : n0 ≤ 9223372036854775807) (hc0 : ∀ j, -128 ≤ c0 j ∧ c0 j ≤ 127) (ba1 : -128 ≤ a1 ∧ a1 ≤ 127) (bb1 : -128 ≤ b1 ∧ b1 ≤ 127)
    (hr0 : Rd8 w w.heap.size A0 (4 * n0) c0) (hE : Sent w s0_ s1_ s2_) :
    Calls Tryd.prog 5 #[.agg #[.int .i8 X0, .int .i8 Y0, .slice A0 n0 ca0], .agg #[.int .i8 a1, .int .i8 b1]] w fun e w' => e = .returned (.bool true) ∧ Below w.heap.size w w' := by
  by_cases hn0 : 1048576 < n0
  · exact big0 X0 Y0 A0 n0 ca0 c0 a1 b1 w  hn0 hm0
  obtain ⟨z1, nn, ff, hnn, hS, hI⟩ := both X0 Y0 n0 c0 a1 b1 s0_ s1_ s2_ w bX0 bY0 hc0 (by omega) ba1 bb1 hE
  exact law X0 Y0 A0 n0 ca0 c0 a1 b1 z1 nn ff w (by omega) hnn hr0 hS hI

end Go.Proofs.YtmkcdelfgaogaaaDoor.jointsAt
