/-
  The walk of the law FnExactIsJoint. Conditions stand at each.
-/
import Derived.Test.YtmkcdelfgaogaaaDoorRows
import Derived.Test.YtmkcdelfgaogaaaDoorSqN
import Derived.Test.YtmkcdelfgaogaaaDoorLawA
import Derived.Test.YtmkcdelfgaogaaaDoorOpens
import Derived.Test.YtmkcdelfgaogaaaDoorIsJointB
import Derived.Deep.RegionHeld3
import Derived.Deep.DeepCutAuto
import Derived.Lib.SmallJoins
namespace Go.Proofs.YtmkcdelfgaogaaaDoor.isJoint
open Go Go.ChangeShapes Go.WideShapes Go.ChangeAt Go.RowKit
set_option linter.unusedVariables false
set_option linter.unusedSimpArgs false
set_option maxRecDepth 100000
set_option maxHeartbeats 4000000

theorem law (X0 Y0 : Int) (A0 : Option Addr) (n0 ca0 : Nat) (c0 : Nat → Int) (a1 b1 : Int) (a2 b2 : Int) (z0 : Bool) (z1 : Int) (w : World) (hn0 : n0 ≤ 1048576)
    (hr0 : Rd8 w w.heap.size A0 (4 * n0) c0)
    (hS : ∀ (W : World) (G0 : Nat), Below w.heap.size w W → Ab W G0 n0 c0 → 
      Calls Tryd.prog 9 #[.agg #[.int .i8 X0, .int .i8 Y0, .slice (some ⟨G0, 0, none⟩) n0 n0], .agg #[.int .i8 a1, .int .i8 b1], .agg #[.int .i8 a2, .int .i8 b2]] W fun e w' => Below W.heap.size W w' ∧ e = .returned (.tuple #[.bool z0, .int .i64 z1]))
    (hI : ∀ (W : World) (G0 : Nat), Below w.heap.size w W → Ab W G0 n0 c0 → 
      Calls Tryd.prog 12 #[.agg #[.int .i8 X0, .int .i8 Y0, .slice (some ⟨G0, 0, none⟩) n0 n0], .agg #[.int .i8 a1, .int .i8 b1], .agg #[.int .i8 a2, .int .i8 b2]] W fun e w' => Below W.heap.size W w' ∧ e = .returned (.tuple #[.bool z0, .int .i64 z1])) :
    Calls Tryd.prog 3 #[.agg #[.int .i8 X0, .int .i8 Y0, .slice A0 n0 ca0], .agg #[.int .i8 a1, .int .i8 b1], .agg #[.int .i8 a2, .int .i8 b2]] w fun e w' => e = .returned (.bool true) ∧ Below w.heap.size w w' := by
  have HS := Lib.hid hS
  have HI := Lib.hid hI
  have HW := Nat.le_refl w.heap.size
  have HR0 := Lib.hid hr0
  have hz0 : 0 ≤ 1048576 - (n0 : Int) := by omega
  have hrr0 : (z0 != z0) = false := by simp
  have hrr1 : (z1 != z1) = false := by simp
  have B : Below w.heap.size w w := Below.refl _ _
  clear hS hI HW hr0
  go_enter Tryd.func3, Tryd.ntmps3
  have P0 := (((Bx.new w #[.int .i8 X0, .int .i8 Y0, .slice A0 n0 ca0] 25).alloc (Obj.cells #[.int .i8 a1, .int .i8 b1] 27)).alloc (Obj.cells #[.int .i8 a2, .int .i8 b2] 27))
  have P1 := ((Bx.newAt (w.alloc (Obj.cells #[.int .i8 X0, .int .i8 Y0, .slice A0 n0 ca0] 25)) (w.heap.size + 1) #[.int .i8 a1, .int .i8 b1] 27 (by simp)).alloc (Obj.cells #[.int .i8 a2, .int .i8 b2] 27))
  have P2 := (Bx.newAt ((w.alloc (Obj.cells #[.int .i8 X0, .int .i8 Y0, .slice A0 n0 ca0] 25)).alloc (Obj.cells #[.int .i8 a1, .int .i8 b1] 27)) (w.heap.size + 1 + 1) #[.int .i8 a2, .int .i8 b2] 27 (by simp))
  replace B := (al (al (al B (Obj.cells #[.int .i8 X0, .int .i8 Y0, .slice A0 n0 ca0] 25)) (Obj.cells #[.int .i8 a1, .int .i8 b1] 27)) (Obj.cells #[.int .i8 a2, .int .i8 b2] 27))
  go_wp2_with (refine wpList_load_box P0 rfl _ _ rfl rfl _ Tryd.underlying25 rfl (by kernel_rfl) ?_)
  refine (szSquare_ok X0 Y0 (1048576) A0 n0 ca0 _ (by omega) (by omega) (by omega)).mono ?_
  rintro e w1 ⟨rfl, hb⟩
  replace P0 := P0.below hb
  replace P1 := P1.below hb
  replace P2 := P2.below hb
  replace B := nxt B hb
  clear hb
  go_wp2_with fail
  refine wp_region_held_drew (S := (fun w' : World => Bx w' w.heap.size #[.int .i8 X0, .int .i8 Y0, .slice A0 n0 ca0] 25 ∧ Bx w' (w.heap.size + 1) #[.int .i8 a1, .int .i8 b1] 27 ∧ Bx w' (w.heap.size + 1 + 1) #[.int .i8 a2, .int .i8 b2] 27)) (by kernel_rfl) ⟨P0, P1, P2⟩ (fun hHeld => ?_)
  replace P0 := P0.drew
  replace P1 := P1.drew
  replace P2 := P2.drew
  replace B := B.drew
  obtain ⟨w2, hW⟩ : ∃ W : World, W = w1.drew := ⟨_, rfl⟩
  rw [← hW] at P0 P1 P2 B hHeld ⊢
  clear hW
  refine wpAnyH_take (i := 0) (oi := _) (v := .agg #[.int .i8 X0, .int .i8 Y0, .slice A0 n0 ca0]) rfl (by kernel_rfl) (by kernel_rfl) (by kernel_rfl) (fun _ _ _ h => h) (yields_box (by kernel_rfl) _ _ rfl w.heap.size rfl #[.int .i8 X0, .int .i8 Y0, .slice A0 n0 ca0] 25 (fun _ hS => hS.1) _ Tryd.underlying25 rfl (by kernel_rfl)) (by assumption) ?_
  try simp only [List.getElem_toArray, List.getElem_cons_zero, List.getElem_cons_succ, Act.put, List.setIfInBounds_toArray, List.set_cons_zero, List.set_cons_succ]
  refine wpAnyH_take (i := 2) (oi := _) (v := .agg #[.int .i8 a1, .int .i8 b1]) rfl (by kernel_rfl) (by kernel_rfl) (by kernel_rfl) (fun _ _ _ h => h) (yields_box (by kernel_rfl) _ _ rfl (w.heap.size + 1) rfl #[.int .i8 a1, .int .i8 b1] 27 (fun _ hS => hS.2.1) _ Tryd.underlying27 rfl (by kernel_rfl)) (by assumption) ?_
  try simp only [List.getElem_toArray, List.getElem_cons_zero, List.getElem_cons_succ, Act.put, List.setIfInBounds_toArray, List.set_cons_zero, List.set_cons_succ]
  refine wpAnyH_take (i := 4) (oi := _) (v := .agg #[.int .i8 a2, .int .i8 b2]) rfl (by kernel_rfl) (by kernel_rfl) (by kernel_rfl) (fun _ _ _ h => h) (yields_box (by kernel_rfl) _ _ rfl (w.heap.size + 1 + 1) rfl #[.int .i8 a2, .int .i8 b2] 27 (fun _ hS => hS.2.2) _ Tryd.underlying27 rfl (by kernel_rfl)) (by assumption) ?_
  try simp only [List.getElem_toArray, List.getElem_cons_zero, List.getElem_cons_succ, Act.put, List.setIfInBounds_toArray, List.set_cons_zero, List.set_cons_succ]
  refine wpAnyH_ready (rs := [1]) (by kernel_rfl) (by simp) ?_
  refine AllReadyH.cons (o := _) rfl (fun K hK => ?_) AllReadyH.nil
  go_simp
  refine (toSquare_ab X0 Y0 A0 n0 ca0 w.heap.size c0 _ (by omega) B.size (HR0.out.below B)).mono ?_
  rintro e w3 ⟨g50, rfl, hg, hb, R50⟩
  have lt0 : w.heap.size < g50 := Nat.lt_of_lt_of_le P0.lt hg
  have lt1 : (w.heap.size + 1) < g50 := Nat.lt_of_lt_of_le P1.lt hg
  have lt2 : (w.heap.size + 1 + 1) < g50 := Nat.lt_of_lt_of_le P2.lt hg
  have bzg50 : w.heap.size ≤ g50 := Nat.le_trans B.size hg
  replace P0 := P0.below hb
  replace P1 := P1.below hb
  replace P2 := P2.below hb
  replace B := nxt B hb
  clear hb
  clear hg
  refine hK.out _ _ ⟨P0, P1, P2⟩ (fun hHeld => ?_)
  clear hK K
  try simp only [List.getElem_toArray, List.getElem_cons_zero, List.getElem_cons_succ, Act.put, List.setIfInBounds_toArray, List.set_cons_zero, List.set_cons_succ]
  refine wpAnyH_ready (rs := [3]) (by kernel_rfl) (by simp) ?_
  refine AllReadyH.cons (o := _) rfl (fun K hK => ?_) AllReadyH.nil
  go_simp
  refine (toCell_any a1 b1 _).mono ?_
  rintro e w4 ⟨rfl, hb⟩
  replace P0 := P0.below hb
  replace P1 := P1.below hb
  replace P2 := P2.below hb
  replace R50 := R50.below hb
  replace B := nxt B hb
  clear hb
  refine hK.out _ _ ⟨P0, P1, P2⟩ (fun hHeld => ?_)
  clear hK K
  try simp only [List.getElem_toArray, List.getElem_cons_zero, List.getElem_cons_succ, Act.put, List.setIfInBounds_toArray, List.set_cons_zero, List.set_cons_succ]
  refine wpAnyH_ready (rs := [5]) (by kernel_rfl) (by simp) ?_
  refine AllReadyH.cons (o := _) rfl (fun K hK => ?_) AllReadyH.nil
  go_simp
  refine (toCell_any a2 b2 _).mono ?_
  rintro e w5 ⟨rfl, hb⟩
  replace P0 := P0.below hb
  replace P1 := P1.below hb
  replace P2 := P2.below hb
  replace R50 := R50.below hb
  replace B := nxt B hb
  clear hb
  refine hK.out _ _ ⟨P0, P1, P2⟩ (fun hHeld => ?_)
  clear hK K
  try simp only [List.getElem_toArray, List.getElem_cons_zero, List.getElem_cons_succ, Act.put, List.setIfInBounds_toArray, List.set_cons_zero, List.set_cons_succ]
  refine wpAnyH_ready (rs := [6]) (by kernel_rfl) (by simp) ?_
  refine AllReadyH.cons (o := _) rfl (fun K hK => ?_) AllReadyH.nil
  go_simp
  refine (HS.out _ g50 B R50).mono ?_
  rintro e w6 ⟨hb, rfl⟩
  replace P0 := P0.below hb
  replace P1 := P1.below hb
  replace P2 := P2.below hb
  replace R50 := R50.below hb
  replace B := nxt B hb
  clear hb
  refine hK.out _ _ ⟨P0, P1, P2⟩ (fun hHeld => ?_)
  clear hK K
  try simp only [List.getElem_toArray, List.getElem_cons_zero, List.getElem_cons_succ, Act.put, List.setIfInBounds_toArray, List.set_cons_zero, List.set_cons_succ]
  refine wpAnyH_take (i := 7) (oi := _) (v := ?_) rfl (by kernel_rfl) (by kernel_rfl) (by kernel_rfl) (fun _ _ _ h => h) (Or.inl ⟨by kernel_rfl, ?_⟩) (by assumption) ?_
  rotate_left
  · intro w hSw; (try dsimp only at hSw); go_simp; first | done | with_reducible rfl
  try simp only [List.getElem_toArray, List.getElem_cons_zero, List.getElem_cons_succ, Act.put, List.setIfInBounds_toArray, List.set_cons_zero, List.set_cons_succ]
  refine wpAnyH_take (i := 8) (oi := _) (v := ?_) rfl (by kernel_rfl) (by kernel_rfl) (by kernel_rfl) (fun _ _ _ h => h) (Or.inl ⟨by kernel_rfl, ?_⟩) (by assumption) ?_
  rotate_left
  · intro w hSw; (try dsimp only at hSw); go_simp; first | done | with_reducible rfl
  try simp only [List.getElem_toArray, List.getElem_cons_zero, List.getElem_cons_succ, Act.put, List.setIfInBounds_toArray, List.set_cons_zero, List.set_cons_succ]
  refine wpAnyH_take (i := 9) (oi := _) (v := ?_) rfl (by kernel_rfl) (by kernel_rfl) (by kernel_rfl) (fun _ _ _ h => h) (Or.inl ⟨by kernel_rfl, ?_⟩) (by assumption) ?_
  rotate_left
  · intro w hSw; (try dsimp only at hSw); go_simp; first | done | with_reducible rfl
  try simp only [List.getElem_toArray, List.getElem_cons_zero, List.getElem_cons_succ, Act.put, List.setIfInBounds_toArray, List.set_cons_zero, List.set_cons_succ]
  refine wpAnyH_take (i := 10) (oi := _) (v := ?_) rfl (by kernel_rfl) (by kernel_rfl) (by kernel_rfl) (fun _ _ _ h => h) (Or.inl ⟨by kernel_rfl, ?_⟩) (by assumption) ?_
  rotate_left
  · intro w hSw; (try dsimp only at hSw); go_simp; first | done | with_reducible rfl
  try simp only [List.getElem_toArray, List.getElem_cons_zero, List.getElem_cons_succ, Act.put, List.setIfInBounds_toArray, List.set_cons_zero, List.set_cons_succ]
  refine wpAnyH_take (i := 11) (oi := _) (v := ?_) rfl (by kernel_rfl) (by kernel_rfl) (by kernel_rfl) (fun _ _ _ h => h) (Or.inl ⟨by kernel_rfl, ?_⟩) (by assumption) ?_
  rotate_left
  · intro w hSw; (try dsimp only at hSw); go_simp; first | done | with_reducible rfl
  try simp only [List.getElem_toArray, List.getElem_cons_zero, List.getElem_cons_succ, Act.put, List.setIfInBounds_toArray, List.set_cons_zero, List.set_cons_succ]
  refine wpAnyH_done (by kernel_rfl) ?_ _
  clear R50
  go_wp2_with (refine wpList_load_box P0 rfl _ _ rfl rfl _ Tryd.underlying25 rfl (by kernel_rfl) ?_)
  refine (toSquare_ab X0 Y0 A0 n0 ca0 w.heap.size c0 _ (by omega) B.size (HR0.out.below B)).mono ?_
  rintro e w7 ⟨g70, rfl, hg, hb, R70⟩
  have lt3 : w.heap.size < g70 := Nat.lt_of_lt_of_le P0.lt hg
  have lt4 : (w.heap.size + 1) < g70 := Nat.lt_of_lt_of_le P1.lt hg
  have lt5 : (w.heap.size + 1 + 1) < g70 := Nat.lt_of_lt_of_le P2.lt hg
  have bzg70 : w.heap.size ≤ g70 := Nat.le_trans B.size hg
  replace P0 := P0.below hb
  replace P1 := P1.below hb
  replace P2 := P2.below hb
  replace B := nxt B hb
  clear hb
  clear hg
  go_wp2_with fail
  have lt6 : w.heap.size < w7.heap.size := P0.lt
  have lt7 : (w.heap.size + 1) < w7.heap.size := P1.lt
  have lt8 : (w.heap.size + 1 + 1) < w7.heap.size := P2.lt
  have lt9 : g70 < w7.heap.size := R70.1
  have U0 := Bx.newAt w7 (w7.heap.size) #[.int .i8 X0, .int .i8 Y0, .slice (some ⟨g70, 0, none⟩) n0 n0] 33 (by simp)
  replace P0 := P0.alloc (.cells #[.int .i8 X0, .int .i8 Y0, .slice (some ⟨g70, 0, none⟩) n0 n0] 33)
  replace P1 := P1.alloc (.cells #[.int .i8 X0, .int .i8 Y0, .slice (some ⟨g70, 0, none⟩) n0 n0] 33)
  replace P2 := P2.alloc (.cells #[.int .i8 X0, .int .i8 Y0, .slice (some ⟨g70, 0, none⟩) n0 n0] 33)
  replace R70 := R70.alloc (.cells #[.int .i8 X0, .int .i8 Y0, .slice (some ⟨g70, 0, none⟩) n0 n0] 33)
  replace B := al B (.cells #[.int .i8 X0, .int .i8 Y0, .slice (some ⟨g70, 0, none⟩) n0 n0] 33)
  obtain ⟨w8, hW⟩ : ∃ W : World, W = (w7.alloc (.cells #[.int .i8 X0, .int .i8 Y0, .slice (some ⟨g70, 0, none⟩) n0 n0] 33)) := ⟨_, rfl⟩
  rw [← hW] at P0 P1 P2 R70 U0 B ⊢
  clear hW
  go_wp2_with fail
  refine wp_region_held_drew (S := (fun w' : World => Bx w' w7.heap.size #[.int .i8 X0, .int .i8 Y0, .slice (some ⟨g70, 0, none⟩) n0 n0] 33 ∧ Bx w' (w.heap.size + 1) #[.int .i8 a1, .int .i8 b1] 27 ∧ Bx w' (w.heap.size + 1 + 1) #[.int .i8 a2, .int .i8 b2] 27)) (by kernel_rfl) ⟨U0, P1, P2⟩ (fun hHeld => ?_)
  replace P0 := P0.drew
  replace P1 := P1.drew
  replace P2 := P2.drew
  replace R70 := R70.drew
  replace U0 := U0.drew
  replace B := B.drew
  obtain ⟨w9, hW⟩ : ∃ W : World, W = w8.drew := ⟨_, rfl⟩
  rw [← hW] at P0 P1 P2 R70 U0 B hHeld ⊢
  clear hW
  refine wpAnyH_take (i := 0) (oi := _) (v := .agg #[.int .i8 X0, .int .i8 Y0, .slice (some ⟨g70, 0, none⟩) n0 n0]) rfl (by kernel_rfl) (by kernel_rfl) (by kernel_rfl) (fun _ _ _ h => h) (yields_box (by kernel_rfl) _ _ rfl w7.heap.size rfl #[.int .i8 X0, .int .i8 Y0, .slice (some ⟨g70, 0, none⟩) n0 n0] 33 (fun _ hS => hS.1) _ Tryd.underlying33 rfl (by kernel_rfl)) (by assumption) ?_
  try simp only [List.getElem_toArray, List.getElem_cons_zero, List.getElem_cons_succ, Act.put, List.setIfInBounds_toArray, List.set_cons_zero, List.set_cons_succ]
  refine wpAnyH_take (i := 1) (oi := _) (v := .agg #[.int .i8 a1, .int .i8 b1]) rfl (by kernel_rfl) (by kernel_rfl) (by kernel_rfl) (fun _ _ _ h => h) (yields_box (by kernel_rfl) _ _ rfl (w.heap.size + 1) rfl #[.int .i8 a1, .int .i8 b1] 27 (fun _ hS => hS.2.1) _ Tryd.underlying27 rfl (by kernel_rfl)) (by assumption) ?_
  try simp only [List.getElem_toArray, List.getElem_cons_zero, List.getElem_cons_succ, Act.put, List.setIfInBounds_toArray, List.set_cons_zero, List.set_cons_succ]
  refine wpAnyH_take (i := 3) (oi := _) (v := .agg #[.int .i8 a2, .int .i8 b2]) rfl (by kernel_rfl) (by kernel_rfl) (by kernel_rfl) (fun _ _ _ h => h) (yields_box (by kernel_rfl) _ _ rfl (w.heap.size + 1 + 1) rfl #[.int .i8 a2, .int .i8 b2] 27 (fun _ hS => hS.2.2) _ Tryd.underlying27 rfl (by kernel_rfl)) (by assumption) ?_
  try simp only [List.getElem_toArray, List.getElem_cons_zero, List.getElem_cons_succ, Act.put, List.setIfInBounds_toArray, List.set_cons_zero, List.set_cons_succ]
  refine wpAnyH_ready (rs := [2]) (by kernel_rfl) (by simp) ?_
  refine AllReadyH.cons (o := _) rfl (fun K hK => ?_) AllReadyH.nil
  go_simp
  refine (toCell_any a1 b1 _).mono ?_
  rintro e w10 ⟨rfl, hb⟩
  replace P0 := P0.below hb
  replace P1 := P1.below hb
  replace P2 := P2.below hb
  replace R70 := R70.below hb
  replace U0 := U0.below hb
  replace B := nxt B hb
  clear hb
  refine hK.out _ _ ⟨U0, P1, P2⟩ (fun hHeld => ?_)
  clear hK K
  try simp only [List.getElem_toArray, List.getElem_cons_zero, List.getElem_cons_succ, Act.put, List.setIfInBounds_toArray, List.set_cons_zero, List.set_cons_succ]
  refine wpAnyH_ready (rs := [4]) (by kernel_rfl) (by simp) ?_
  refine AllReadyH.cons (o := _) rfl (fun K hK => ?_) AllReadyH.nil
  go_simp
  refine (toCell_any a2 b2 _).mono ?_
  rintro e w11 ⟨rfl, hb⟩
  replace P0 := P0.below hb
  replace P1 := P1.below hb
  replace P2 := P2.below hb
  replace R70 := R70.below hb
  replace U0 := U0.below hb
  replace B := nxt B hb
  clear hb
  refine hK.out _ _ ⟨U0, P1, P2⟩ (fun hHeld => ?_)
  clear hK K
  try simp only [List.getElem_toArray, List.getElem_cons_zero, List.getElem_cons_succ, Act.put, List.setIfInBounds_toArray, List.set_cons_zero, List.set_cons_succ]
  refine wpAnyH_ready (rs := [5]) (by kernel_rfl) (by simp) ?_
  refine AllReadyH.cons (o := _) rfl (fun K hK => ?_) AllReadyH.nil
  go_simp
  refine (HI.out _ g70 B R70).mono ?_
  rintro e w12 ⟨hb, rfl⟩
  replace P0 := P0.below hb
  replace P1 := P1.below hb
  replace P2 := P2.below hb
  replace R70 := R70.below hb
  replace U0 := U0.below hb
  replace B := nxt B hb
  clear hb
  refine hK.out _ _ ⟨U0, P1, P2⟩ (fun hHeld => ?_)
  clear hK K
  try simp only [List.getElem_toArray, List.getElem_cons_zero, List.getElem_cons_succ, Act.put, List.setIfInBounds_toArray, List.set_cons_zero, List.set_cons_succ]
  refine wpAnyH_take (i := 6) (oi := _) (v := ?_) rfl (by kernel_rfl) (by kernel_rfl) (by kernel_rfl) (fun _ _ _ h => h) (Or.inl ⟨by kernel_rfl, ?_⟩) (by assumption) ?_
  rotate_left
  · intro w hSw; (try dsimp only at hSw); go_simp; first | done | with_reducible rfl
  try simp only [List.getElem_toArray, List.getElem_cons_zero, List.getElem_cons_succ, Act.put, List.setIfInBounds_toArray, List.set_cons_zero, List.set_cons_succ]
  refine wpAnyH_take (i := 7) (oi := _) (v := ?_) rfl (by kernel_rfl) (by kernel_rfl) (by kernel_rfl) (fun _ _ _ h => h) (Or.inl ⟨by kernel_rfl, ?_⟩) (by assumption) ?_
  rotate_left
  · intro w hSw; (try dsimp only at hSw); go_simp; first | done | with_reducible rfl
  try simp only [List.getElem_toArray, List.getElem_cons_zero, List.getElem_cons_succ, Act.put, List.setIfInBounds_toArray, List.set_cons_zero, List.set_cons_succ]
  refine wpAnyH_take (i := 8) (oi := _) (v := ?_) rfl (by kernel_rfl) (by kernel_rfl) (by kernel_rfl) (fun _ _ _ h => h) (Or.inl ⟨by kernel_rfl, ?_⟩) (by assumption) ?_
  rotate_left
  · intro w hSw; (try dsimp only at hSw); go_simp; first | done | with_reducible rfl
  try simp only [List.getElem_toArray, List.getElem_cons_zero, List.getElem_cons_succ, Act.put, List.setIfInBounds_toArray, List.set_cons_zero, List.set_cons_succ]
  refine wpAnyH_take (i := 9) (oi := _) (v := ?_) rfl (by kernel_rfl) (by kernel_rfl) (by kernel_rfl) (fun _ _ _ h => h) (Or.inl ⟨by kernel_rfl, ?_⟩) (by assumption) ?_
  rotate_left
  · intro w hSw; (try dsimp only at hSw); go_simp; first | done | with_reducible rfl
  try simp only [List.getElem_toArray, List.getElem_cons_zero, List.getElem_cons_succ, Act.put, List.setIfInBounds_toArray, List.set_cons_zero, List.set_cons_succ]
  refine wpAnyH_take (i := 10) (oi := _) (v := ?_) rfl (by kernel_rfl) (by kernel_rfl) (by kernel_rfl) (fun _ _ _ h => h) (Or.inl ⟨by kernel_rfl, ?_⟩) (by assumption) ?_
  rotate_left
  · intro w hSw; (try dsimp only at hSw); go_simp; first | done | with_reducible rfl
  try simp only [List.getElem_toArray, List.getElem_cons_zero, List.getElem_cons_succ, Act.put, List.setIfInBounds_toArray, List.set_cons_zero, List.set_cons_succ]
  refine wpAnyH_done (by kernel_rfl) ?_ _
  go_wp2_with fail
  refine wp_region_held_drew (S := (fun w' : World => Bx w' w7.heap.size #[.int .i8 X0, .int .i8 Y0, .slice (some ⟨g70, 0, none⟩) n0 n0] 33 ∧ Bx w' w.heap.size #[.int .i8 X0, .int .i8 Y0, .slice A0 n0 ca0] 25)) (by kernel_rfl) ⟨U0, P0⟩ (fun hHeld => ?_)
  replace P0 := P0.drew
  replace P1 := P1.drew
  replace P2 := P2.drew
  replace R70 := R70.drew
  replace U0 := U0.drew
  replace B := B.drew
  obtain ⟨w13, hW⟩ : ∃ W : World, W = w12.drew := ⟨_, rfl⟩
  rw [← hW] at P0 P1 P2 R70 U0 B hHeld ⊢
  clear hW
  refine wpAnyH_take (i := 0) (oi := _) (v := .agg #[.int .i8 X0, .int .i8 Y0, .slice (some ⟨g70, 0, none⟩) n0 n0]) rfl (by kernel_rfl) (by kernel_rfl) (by kernel_rfl) (fun _ _ _ h => h) (yields_box (by kernel_rfl) _ _ rfl w7.heap.size rfl #[.int .i8 X0, .int .i8 Y0, .slice (some ⟨g70, 0, none⟩) n0 n0] 33 (fun _ hS => hS.1) _ Tryd.underlying33 rfl (by kernel_rfl)) (by assumption) ?_
  try simp only [List.getElem_toArray, List.getElem_cons_zero, List.getElem_cons_succ, Act.put, List.setIfInBounds_toArray, List.set_cons_zero, List.set_cons_succ]
  refine wpAnyH_take (i := 1) (oi := _) (v := .agg #[.int .i8 X0, .int .i8 Y0, .slice A0 n0 ca0]) rfl (by kernel_rfl) (by kernel_rfl) (by kernel_rfl) (fun _ _ _ h => h) (yields_box (by kernel_rfl) _ _ rfl w.heap.size rfl #[.int .i8 X0, .int .i8 Y0, .slice A0 n0 ca0] 25 (fun _ hS => hS.2) _ Tryd.underlying25 rfl (by kernel_rfl)) (by assumption) ?_
  try simp only [List.getElem_toArray, List.getElem_cons_zero, List.getElem_cons_succ, Act.put, List.setIfInBounds_toArray, List.set_cons_zero, List.set_cons_succ]
  refine wpAnyH_ready (rs := [2]) (by kernel_rfl) (by simp) ?_
  refine AllReadyH.cons (o := _) rfl (fun K hK => ?_) AllReadyH.nil
  go_simp
  refine (toSquare_ab X0 Y0 A0 n0 ca0 w.heap.size c0 _ (by omega) B.size (HR0.out.below B)).mono ?_
  rintro e w14 ⟨gc0, rfl, hg, hb, Rc0⟩
  replace P0 := P0.below hb
  replace P1 := P1.below hb
  replace P2 := P2.below hb
  replace R70 := R70.below hb
  replace U0 := U0.below hb
  replace B := nxt B hb
  clear hb
  clear hg
  refine hK.out _ _ ⟨U0, P0⟩ (fun hHeld => ?_)
  clear hK K
  try simp only [List.getElem_toArray, List.getElem_cons_zero, List.getElem_cons_succ, Act.put, List.setIfInBounds_toArray, List.set_cons_zero, List.set_cons_succ]
  refine wpAnyH_ready (rs := [3]) (by kernel_rfl) (by simp) ?_
  refine AllReadyH.cons (o := _) rfl (fun K hK => ?_) AllReadyH.nil
  go_simp
  refine (eqSquare_yes X0 Y0 (some ⟨g70, 0, none⟩) (some ⟨gc0, 0, none⟩) n0 n0 n0 n0 _ c0 c0 _ (by omega) (by omega) (Nat.le_refl _) R70.rd Rc0.rd ⟨rfl, fun _ _ => rfl⟩).mono ?_
  rintro e w15 ⟨rfl, hb⟩
  replace P0 := P0.below hb
  replace P1 := P1.below hb
  replace P2 := P2.below hb
  replace R70 := R70.below hb
  replace U0 := U0.below hb
  replace Rc0 := Rc0.below hb
  replace B := nxt B hb
  clear hb
  refine hK.out _ _ ⟨U0, P0⟩ (fun hHeld => ?_)
  clear hK K
  try simp only [List.getElem_toArray, List.getElem_cons_zero, List.getElem_cons_succ, Act.put, List.setIfInBounds_toArray, List.set_cons_zero, List.set_cons_succ]
  refine wpAnyH_take (i := 4) (oi := _) (v := ?_) rfl (by kernel_rfl) (by kernel_rfl) (by kernel_rfl) (fun _ _ _ h => h) (Or.inl ⟨by kernel_rfl, ?_⟩) (by assumption) ?_
  rotate_left
  · intro w hSw; (try dsimp only at hSw); go_simp; first | done | with_reducible rfl
  try simp only [List.getElem_toArray, List.getElem_cons_zero, List.getElem_cons_succ, Act.put, List.setIfInBounds_toArray, List.set_cons_zero, List.set_cons_succ]
  refine wpAnyH_done (by kernel_rfl) ?_ _
  clear Rc0
  go_wp2_with fail
  go_ret
  exact ⟨rfl, B⟩

theorem big0 (X0 Y0 : Int) (A0 : Option Addr) (n0 ca0 : Nat) (c0 : Nat → Int) (a1 b1 : Int) (a2 b2 : Int) (w : World)  (hn : 1048576 < n0) (hm : n0 ≤ 9223372036854775807) :
    Calls Tryd.prog 3 #[.agg #[.int .i8 X0, .int .i8 Y0, .slice A0 n0 ca0], .agg #[.int .i8 a1, .int .i8 b1], .agg #[.int .i8 a2, .int .i8 b2]] w fun e w' => e = .returned (.bool true) ∧ Below w.heap.size w w' := by
  have B : Below w.heap.size w w := Below.refl _ _
  go_enter Tryd.func3, Tryd.ntmps3
  have P0 := (((Bx.new w #[.int .i8 X0, .int .i8 Y0, .slice A0 n0 ca0] 25).alloc (Obj.cells #[.int .i8 a1, .int .i8 b1] 27)).alloc (Obj.cells #[.int .i8 a2, .int .i8 b2] 27))
  have P1 := ((Bx.newAt (w.alloc (Obj.cells #[.int .i8 X0, .int .i8 Y0, .slice A0 n0 ca0] 25)) (w.heap.size + 1) #[.int .i8 a1, .int .i8 b1] 27 (by simp)).alloc (Obj.cells #[.int .i8 a2, .int .i8 b2] 27))
  have P2 := (Bx.newAt ((w.alloc (Obj.cells #[.int .i8 X0, .int .i8 Y0, .slice A0 n0 ca0] 25)).alloc (Obj.cells #[.int .i8 a1, .int .i8 b1] 27)) (w.heap.size + 1 + 1) #[.int .i8 a2, .int .i8 b2] 27 (by simp))
  replace B := (al (al (al B (Obj.cells #[.int .i8 X0, .int .i8 Y0, .slice A0 n0 ca0] 25)) (Obj.cells #[.int .i8 a1, .int .i8 b1] 27)) (Obj.cells #[.int .i8 a2, .int .i8 b2] 27))
  go_wp2_with (refine wpList_load_box P0 rfl _ _ rfl rfl _ Tryd.underlying25 rfl (by kernel_rfl) ?_)
  refine (szSquare_big X0 Y0 (1048576) A0 n0 ca0 _ (by omega) (by omega) (by omega) hm).mono ?_
  rintro e w16 ⟨rfl, hb⟩
  replace P0 := P0.below hb
  replace P1 := P1.below hb
  replace P2 := P2.below hb
  replace B := nxt B hb
  clear hb
  go_wp2_with fail
  go_ret
  exact ⟨rfl, B⟩

theorem walk (X0 Y0 : Int) (A0 : Option Addr) (n0 ca0 : Nat) (c0 : Nat → Int) (a1 b1 : Int) (a2 b2 : Int) (s0_ s1_ s2_ : Addr) (w : World) (bX0 : -128 ≤ X0 ∧ X0 ≤ 127) (bY0 : -128 ≤ Y0 ∧ Y0 ≤ 127) (hm0 : n0 ≤ 9223372036854775807) (hc0 : ∀ j, -128 ≤ c0 j ∧ c0 j ≤ 127) (ba1 : -128 ≤ a1 ∧ a1 ≤ 127) (bb1 : -128 ≤ b1 ∧ b1 ≤ 127) (ba2 : -128 ≤ a2 ∧ a2 ≤ 127) (bb2 : -128 ≤ b2 ∧ b2 ≤ 127)
    (hr0 : Rd8 w w.heap.size A0 (4 * n0) c0) (hE : Sent w s0_ s1_ s2_) :
    Calls Tryd.prog 3 #[.agg #[.int .i8 X0, .int .i8 Y0, .slice A0 n0 ca0], .agg #[.int .i8 a1, .int .i8 b1], .agg #[.int .i8 a2, .int .i8 b2]] w fun e w' => e = .returned (.bool true) ∧ Below w.heap.size w w' := by
  by_cases hn0 : 1048576 < n0
  · exact big0 X0 Y0 A0 n0 ca0 c0 a1 b1 a2 b2 w  hn0 hm0
  obtain ⟨z0, z1, hS, hI⟩ := both X0 Y0 n0 c0 a1 b1 a2 b2 s0_ s1_ s2_ w bX0 bY0 hc0 (by omega) ba1 bb1 ba2 bb2 hE
  exact law X0 Y0 A0 n0 ca0 c0 a1 b1 a2 b2 z0 z1 w (by omega)  hr0 hS hI

end Go.Proofs.YtmkcdelfgaogaaaDoor.isJoint
