/-
  The walk of the law FnExactMeetOf. Conditions stand at each.
-/
import Derived.Test.YtmkcdelfgaogaaaDoorRows
import Derived.Test.YtmkcdelfgaogaaaDoorGndC
import Derived.Test.YtmkcdelfgaogaaaDoorGndA
import Derived.Test.YtmkcdelfgaogaaaDoorDrew
import Derived.Test.YtmkcdelfgaogaaaDoorSqN
import Derived.Test.YtmkcdelfgaogaaaDoorLawA
import Derived.Test.YtmkcdelfgaogaaaDoorMeetAll
import Derived.Deep.RegionHeld3
import Derived.Deep.DeepCutAuto
import Derived.Lib.SmallJoins
namespace Go.Proofs.YtmkcdelfgaogaaaDoor.meetOf
open Go Go.ChangeShapes Go.WideShapes Go.ChangeAt Go.RowKit
set_option linter.unusedVariables false
set_option linter.unusedSimpArgs false
set_option maxRecDepth 100000
set_option maxHeartbeats 4000000
theorem _root_.Go.Proofs.YtmkcdelfgaogaaaDoor.Ac.drew {w : World} {g n : Nat} {c : Nat → Int} (h : Ac w g n c) : Ac w.drew g n c := h

theorem law (X0 Y0 : Int) (A0 : Option Addr) (n0 ca0 : Nat) (c0 : Nat → Int) (A1 : Option Addr) (n1 ca1 : Nat) (c1 : Nat → Int) (A2 : Option Addr) (n2 ca2 : Nat) (c2 : Nat → Int) (p0 q0 : Int) (z1 : Int) (w : World) (hn0 : n0 ≤ 1048576) (hn1 : n0 + n1 ≤ 1048576) (hn2 : n0 + n1 + n2 ≤ 1048576)
    (hr0 : Rd8 w w.heap.size A0 (4 * n0) c0) (hr1 : RdK .i8 w w.heap.size A1 (2 * n1) c1) (hr2 : RdK .i8 w w.heap.size A2 (2 * n2) c2)
    (hS : ∀ (W : World) (G0 G1 G2 : Nat), Below w.heap.size w W → Ab W G0 n0 c0 → Ac W G1 n1 c1 → Ac W G2 n2 c2 → 
      Calls Tryd.prog 23 #[.agg #[.int .i8 X0, .int .i8 Y0, .slice (some ⟨G0, 0, none⟩) n0 n0], .slice (some ⟨G1, 0, none⟩) n1 n1, .slice (some ⟨G2, 0, none⟩) n2 n2] W fun e w' => Below W.heap.size W w' ∧ e = .returned (.tuple #[.agg #[.int .i8 p0, .int .i8 q0], .int .i64 z1]))
    (hI : ∀ (W : World) (G0 G1 G2 : Nat), Below w.heap.size w W → Ab W G0 n0 c0 → Ac W G1 n1 c1 → Ac W G2 n2 c2 → 
      Calls Tryd.prog 25 #[.agg #[.int .i8 X0, .int .i8 Y0, .slice (some ⟨G0, 0, none⟩) n0 n0], .slice (some ⟨G1, 0, none⟩) n1 n1, .slice (some ⟨G2, 0, none⟩) n2 n2] W fun e w' => Below W.heap.size W w' ∧ e = .returned (.tuple #[.agg #[.int .i8 p0, .int .i8 q0], .int .i64 z1])) :
    Calls Tryd.prog 6 #[.agg #[.int .i8 X0, .int .i8 Y0, .slice A0 n0 ca0], .slice A1 n1 ca1, .slice A2 n2 ca2] w fun e w' => e = .returned (.bool true) ∧ Below w.heap.size w w' := by
  have HS := Lib.hid hS
  have HI := Lib.hid hI
  have HW := Nat.le_refl w.heap.size
  have HR0 := Lib.hid hr0
  have hz0 : 0 ≤ 1048576 - (n0 : Int) := by omega
  have HR1 := Lib.hid hr1
  have hz1 : 0 ≤ 1048576 - (n0 : Int) - (n1 : Int) := by omega
  have HR2 := Lib.hid hr2
  have hz2 : 0 ≤ 1048576 - (n0 : Int) - (n1 : Int) - (n2 : Int) := by omega
  have hrr1 : (z1 != z1) = false := by simp
  have B : Below w.heap.size w w := Below.refl _ _
  clear hS hI HW hr0 hr1 hr2
  go_enter Tryd.func6, Tryd.ntmps6
  have P0 := (Bx.new w #[.int .i8 X0, .int .i8 Y0, .slice A0 n0 ca0] 25)
  replace B := (al B (Obj.cells #[.int .i8 X0, .int .i8 Y0, .slice A0 n0 ca0] 25))
  go_wp2_with (refine wpList_load_box P0 rfl _ _ rfl rfl _ Tryd.underlying25 rfl (by kernel_rfl) ?_)
  refine (szSquare_ok X0 Y0 (1048576) A0 n0 ca0 _ (by omega) (by omega) (by omega)).mono ?_
  rintro e w1 ⟨rfl, hb⟩
  replace P0 := P0.below hb
  replace B := nxt B hb
  clear hb
  go_wp2_with fail
  refine (szCellS_ok A1 n1 ca1 (1048576 - (n0 : Int)) _ (by omega) (by omega) (by omega)).mono ?_
  rintro e w2 ⟨rfl, rfl⟩
  go_wp2_with fail
  refine (szCellS_ok A2 n2 ca2 (1048576 - (n0 : Int) - (n1 : Int)) _ (by omega) (by omega) (by omega)).mono ?_
  rintro e w3 ⟨rfl, rfl⟩
  go_wp2_with (refine wpList_load_box P0 rfl _ _ rfl rfl _ Tryd.underlying25 rfl (by kernel_rfl) ?_)
  refine (toSquare_ab X0 Y0 A0 n0 ca0 w.heap.size c0 _ (by omega) B.size (HR0.out.below B)).mono ?_
  rintro e w4 ⟨g50, rfl, hg, hb, R50⟩
  have lt0 : w.heap.size < g50 := Nat.lt_of_lt_of_le P0.lt hg
  have bzg50 : w.heap.size ≤ g50 := Nat.le_trans B.size hg
  replace P0 := P0.below hb
  replace B := nxt B hb
  clear hb
  clear hg
  go_wp2_with fail
  refine (toCellS_any A1 n1 ca1 w.heap.size c1 _ (by omega) B.size (HR1.out.below B)).mono ?_
  rintro e w5 ⟨g51, rfl, hg, hb, R51⟩
  have lt1 : w.heap.size < g51 := Nat.lt_of_lt_of_le P0.lt hg
  have lt2 : g50 < g51 := Nat.lt_of_lt_of_le R50.1 hg
  have bzg51 : w.heap.size ≤ g51 := Nat.le_trans B.size hg
  replace P0 := P0.below hb
  replace R50 := R50.below hb
  replace B := nxt B hb
  clear hb
  clear hg
  go_wp2_with fail
  refine (toCellS_any A2 n2 ca2 w.heap.size c2 _ (by omega) B.size (HR2.out.below B)).mono ?_
  rintro e w6 ⟨g52, rfl, hg, hb, R52⟩
  have lt3 : w.heap.size < g52 := Nat.lt_of_lt_of_le P0.lt hg
  have lt4 : g50 < g52 := Nat.lt_of_lt_of_le R50.1 hg
  have lt5 : g51 < g52 := Nat.lt_of_lt_of_le R51.1 hg
  have bzg52 : w.heap.size ≤ g52 := Nat.le_trans B.size hg
  replace P0 := P0.below hb
  replace R50 := R50.below hb
  replace R51 := R51.below hb
  replace B := nxt B hb
  clear hb
  clear hg
  go_wp2_with fail
  refine (HS.out _ g50 g51 g52 B R50 R51 R52).mono ?_
  rintro e w7 ⟨hb, rfl⟩
  replace P0 := P0.below hb
  replace R50 := R50.below hb
  replace R51 := R51.below hb
  replace R52 := R52.below hb
  replace B := nxt B hb
  clear hb
  clear R50
  clear R51
  clear R52
  go_wp2_with (first
    | (refine wpList_load_box ((P0).alloc (.cells #[.int .i8 p0, .int .i8 q0] 35)) rfl _ _ rfl rfl _ Tryd.underlying25 rfl (by kernel_rfl) ?_
       have lt6 : w.heap.size < w7.heap.size := P0.lt
       have O5_0 := Bx.newAt w7 (w7.heap.size) #[.int .i8 p0, .int .i8 q0] 35 (by simp)
       replace P0 := P0.alloc (.cells #[.int .i8 p0, .int .i8 q0] 35)
       replace B := al B (.cells #[.int .i8 p0, .int .i8 q0] 35)
       obtain ⟨w8, hW⟩ : ∃ W : World, W = (w7.alloc (.cells #[.int .i8 p0, .int .i8 q0] 35)) := ⟨_, rfl⟩
       rw [← hW] at P0 O5_0 B ⊢
       clear hW))
  refine (toSquare_ab X0 Y0 A0 n0 ca0 w.heap.size c0 _ (by omega) B.size (HR0.out.below B)).mono ?_
  rintro e w9 ⟨g70, rfl, hg, hb, R70⟩
  have lt7 : w.heap.size < g70 := Nat.lt_of_lt_of_le P0.lt hg
  have lt8 : w7.heap.size < g70 := Nat.lt_of_lt_of_le O5_0.lt hg
  have bzg70 : w.heap.size ≤ g70 := Nat.le_trans B.size hg
  replace P0 := P0.below hb
  replace O5_0 := O5_0.below hb
  replace B := nxt B hb
  clear hb
  clear hg
  go_wp2_with fail
  have lt9 : w.heap.size < w9.heap.size := P0.lt
  have lt10 : w7.heap.size < w9.heap.size := O5_0.lt
  have lt11 : g70 < w9.heap.size := R70.1
  have U0 := Bx.newAt w9 (w9.heap.size) #[.int .i8 X0, .int .i8 Y0, .slice (some ⟨g70, 0, none⟩) n0 n0] 33 (by simp)
  replace P0 := P0.alloc (.cells #[.int .i8 X0, .int .i8 Y0, .slice (some ⟨g70, 0, none⟩) n0 n0] 33)
  replace O5_0 := O5_0.alloc (.cells #[.int .i8 X0, .int .i8 Y0, .slice (some ⟨g70, 0, none⟩) n0 n0] 33)
  replace R70 := R70.alloc (.cells #[.int .i8 X0, .int .i8 Y0, .slice (some ⟨g70, 0, none⟩) n0 n0] 33)
  replace B := al B (.cells #[.int .i8 X0, .int .i8 Y0, .slice (some ⟨g70, 0, none⟩) n0 n0] 33)
  obtain ⟨w10, hW⟩ : ∃ W : World, W = (w9.alloc (.cells #[.int .i8 X0, .int .i8 Y0, .slice (some ⟨g70, 0, none⟩) n0 n0] 33)) := ⟨_, rfl⟩
  rw [← hW] at P0 O5_0 R70 U0 B ⊢
  clear hW
  refine (toCellS_any A1 n1 ca1 w.heap.size c1 _ (by omega) B.size (HR1.out.below B)).mono ?_
  rintro e w11 ⟨g71, rfl, hg, hb, R71⟩
  have lt12 : w.heap.size < g71 := Nat.lt_of_lt_of_le P0.lt hg
  have lt13 : w7.heap.size < g71 := Nat.lt_of_lt_of_le O5_0.lt hg
  have lt14 : g70 < g71 := Nat.lt_of_lt_of_le R70.1 hg
  have lt15 : w9.heap.size < g71 := Nat.lt_of_lt_of_le U0.lt hg
  have bzg71 : w.heap.size ≤ g71 := Nat.le_trans B.size hg
  replace P0 := P0.below hb
  replace O5_0 := O5_0.below hb
  replace R70 := R70.below hb
  replace U0 := U0.below hb
  replace B := nxt B hb
  clear hb
  clear hg
  go_wp2_with fail
  refine (toCellS_any A2 n2 ca2 w.heap.size c2 _ (by omega) B.size (HR2.out.below B)).mono ?_
  rintro e w12 ⟨g72, rfl, hg, hb, R72⟩
  have lt16 : w.heap.size < g72 := Nat.lt_of_lt_of_le P0.lt hg
  have lt17 : w7.heap.size < g72 := Nat.lt_of_lt_of_le O5_0.lt hg
  have lt18 : g70 < g72 := Nat.lt_of_lt_of_le R70.1 hg
  have lt19 : w9.heap.size < g72 := Nat.lt_of_lt_of_le U0.lt hg
  have lt20 : g71 < g72 := Nat.lt_of_lt_of_le R71.1 hg
  have bzg72 : w.heap.size ≤ g72 := Nat.le_trans B.size hg
  replace P0 := P0.below hb
  replace O5_0 := O5_0.below hb
  replace R70 := R70.below hb
  replace U0 := U0.below hb
  replace R71 := R71.below hb
  replace B := nxt B hb
  clear hb
  clear hg
  go_wp2_with (refine wpList_load_box U0 rfl _ _ rfl rfl _ Tryd.underlying33 rfl (by kernel_rfl) ?_)
  refine (HI.out _ g70 g71 g72 B R70 R71 R72).mono ?_
  rintro e w13 ⟨hb, rfl⟩
  replace P0 := P0.below hb
  replace O5_0 := O5_0.below hb
  replace R70 := R70.below hb
  replace U0 := U0.below hb
  replace R71 := R71.below hb
  replace R72 := R72.below hb
  replace B := nxt B hb
  clear hb
  go_wp2_with (first
    | (refine wpList_load_box (Bx.newAt w13 (w13.heap.size) #[.int .i8 p0, .int .i8 q0] 35 (by simp)) rfl _ _ rfl rfl _ Tryd.underlying35 rfl (by kernel_rfl) ?_
       have lt21 : w.heap.size < w13.heap.size := P0.lt
       have lt22 : w7.heap.size < w13.heap.size := O5_0.lt
       have lt23 : g70 < w13.heap.size := R70.1
       have lt24 : w9.heap.size < w13.heap.size := U0.lt
       have lt25 : g71 < w13.heap.size := R71.1
       have lt26 : g72 < w13.heap.size := R72.1
       have O9_0 := Bx.newAt w13 (w13.heap.size) #[.int .i8 p0, .int .i8 q0] 35 (by simp)
       replace P0 := P0.alloc (.cells #[.int .i8 p0, .int .i8 q0] 35)
       replace O5_0 := O5_0.alloc (.cells #[.int .i8 p0, .int .i8 q0] 35)
       replace R70 := R70.alloc (.cells #[.int .i8 p0, .int .i8 q0] 35)
       replace U0 := U0.alloc (.cells #[.int .i8 p0, .int .i8 q0] 35)
       replace R71 := R71.alloc (.cells #[.int .i8 p0, .int .i8 q0] 35)
       replace R72 := R72.alloc (.cells #[.int .i8 p0, .int .i8 q0] 35)
       replace B := al B (.cells #[.int .i8 p0, .int .i8 q0] 35)
       obtain ⟨w14, hW⟩ : ∃ W : World, W = (w13.alloc (.cells #[.int .i8 p0, .int .i8 q0] 35)) := ⟨_, rfl⟩
       rw [← hW] at P0 O5_0 R70 U0 R71 R72 O9_0 B ⊢
       clear hW)
    | (refine wpList_load_box O5_0 rfl _ _ rfl rfl _ Tryd.underlying35 rfl (by kernel_rfl) ?_))
  refine (eqCell_yes p0 q0 _).mono ?_
  rintro e w15 ⟨rfl, hb⟩
  replace P0 := P0.below hb
  replace O5_0 := O5_0.below hb
  replace R70 := R70.below hb
  replace U0 := U0.below hb
  replace R71 := R71.below hb
  replace R72 := R72.below hb
  replace O9_0 := O9_0.below hb
  replace B := nxt B hb
  clear hb
  go_wp2_with fail
  refine wp_region_held_drew (S := (fun w' : World => Bx w' w9.heap.size #[.int .i8 X0, .int .i8 Y0, .slice (some ⟨g70, 0, none⟩) n0 n0] 33 ∧ Bx w' w.heap.size #[.int .i8 X0, .int .i8 Y0, .slice A0 n0 ca0] 25)) (by kernel_rfl) ⟨U0, P0⟩ (fun hHeld => ?_)
  replace P0 := P0.drew
  replace O5_0 := O5_0.drew
  replace R70 := R70.drew
  replace U0 := U0.drew
  replace R71 := R71.drew
  replace R72 := R72.drew
  replace O9_0 := O9_0.drew
  replace B := B.drew
  obtain ⟨w16, hW⟩ : ∃ W : World, W = w15.drew := ⟨_, rfl⟩
  rw [← hW] at P0 O5_0 R70 U0 R71 R72 O9_0 B hHeld ⊢
  clear hW
  refine wpAnyH_take (i := 0) (oi := _) (v := .agg #[.int .i8 X0, .int .i8 Y0, .slice (some ⟨g70, 0, none⟩) n0 n0]) rfl (by kernel_rfl) (by kernel_rfl) (by kernel_rfl) (fun _ _ _ h => h) (yields_box (by kernel_rfl) _ _ rfl w9.heap.size rfl #[.int .i8 X0, .int .i8 Y0, .slice (some ⟨g70, 0, none⟩) n0 n0] 33 (fun _ hS => hS.1) _ Tryd.underlying33 rfl (by kernel_rfl)) (by assumption) ?_
  try simp only [List.getElem_toArray, List.getElem_cons_zero, List.getElem_cons_succ, Act.put, List.setIfInBounds_toArray, List.set_cons_zero, List.set_cons_succ]
  refine wpAnyH_take (i := 1) (oi := _) (v := .agg #[.int .i8 X0, .int .i8 Y0, .slice A0 n0 ca0]) rfl (by kernel_rfl) (by kernel_rfl) (by kernel_rfl) (fun _ _ _ h => h) (yields_box (by kernel_rfl) _ _ rfl w.heap.size rfl #[.int .i8 X0, .int .i8 Y0, .slice A0 n0 ca0] 25 (fun _ hS => hS.2) _ Tryd.underlying25 rfl (by kernel_rfl)) (by assumption) ?_
  try simp only [List.getElem_toArray, List.getElem_cons_zero, List.getElem_cons_succ, Act.put, List.setIfInBounds_toArray, List.set_cons_zero, List.set_cons_succ]
  refine wpAnyH_ready (rs := [2]) (by kernel_rfl) (by simp) ?_
  refine AllReadyH.cons (o := _) rfl (fun K hK => ?_) AllReadyH.nil
  go_simp
  refine (toSquare_ab X0 Y0 A0 n0 ca0 w.heap.size c0 _ (by omega) B.size (HR0.out.below B)).mono ?_
  rintro e w17 ⟨gc0, rfl, hg, hb, Rc0⟩
  replace P0 := P0.below hb
  replace O5_0 := O5_0.below hb
  replace R70 := R70.below hb
  replace U0 := U0.below hb
  replace R71 := R71.below hb
  replace R72 := R72.below hb
  replace O9_0 := O9_0.below hb
  replace B := nxt B hb
  clear hb
  clear hg
  refine hK.out _ _ ⟨U0, P0⟩ (fun hHeld => ?_)
  clear hK K
  try simp only [List.getElem_toArray, List.getElem_cons_zero, List.getElem_cons_succ, Act.put, List.setIfInBounds_toArray, List.set_cons_zero, List.set_cons_succ]
  refine wpAnyH_ready (rs := [3]) (by kernel_rfl) (by simp) ?_
  refine AllReadyH.cons (o := _) rfl (fun K hK => ?_) AllReadyH.nil
  go_simp
  refine (eqSquare_yes X0 Y0 (some ⟨g70, 0, none⟩) (some ⟨gc0, 0, none⟩) n0 n0 n0 n0 _ c0 c0 _ (by omega) (by omega) (Nat.le_refl _) R70.rd Rc0.rd ⟨rfl, fun _ _ => rfl⟩).mono ?_
  rintro e w18 ⟨rfl, hb⟩
  replace P0 := P0.below hb
  replace O5_0 := O5_0.below hb
  replace R70 := R70.below hb
  replace U0 := U0.below hb
  replace R71 := R71.below hb
  replace R72 := R72.below hb
  replace O9_0 := O9_0.below hb
  replace Rc0 := Rc0.below hb
  replace B := nxt B hb
  clear hb
  refine hK.out _ _ ⟨U0, P0⟩ (fun hHeld => ?_)
  clear hK K
  try simp only [List.getElem_toArray, List.getElem_cons_zero, List.getElem_cons_succ, Act.put, List.setIfInBounds_toArray, List.set_cons_zero, List.set_cons_succ]
  refine wpAnyH_take (i := 4) (oi := _) (v := ?_) rfl (by kernel_rfl) (by kernel_rfl) (by kernel_rfl) (fun _ _ _ h => h) (Or.inl ⟨by kernel_rfl, ?_⟩) (by assumption) ?_
  rotate_left
  · intro w hSw; (try dsimp only at hSw); go_simp; first | done | with_reducible rfl
  try simp only [List.getElem_toArray, List.getElem_cons_zero, List.getElem_cons_succ, Act.put, List.setIfInBounds_toArray, List.set_cons_zero, List.set_cons_succ]
  refine wpAnyH_done (by kernel_rfl) ?_ _
  clear Rc0
  go_wp2_with fail
  refine (toCellS_any A1 n1 ca1 w.heap.size c1 _ (by omega) B.size (HR1.out.below B)).mono ?_
  rintro e w19 ⟨gc1, rfl, hg, hb, Rc1⟩
  have lt27 : w.heap.size < gc1 := Nat.lt_of_lt_of_le P0.lt hg
  have lt28 : w7.heap.size < gc1 := Nat.lt_of_lt_of_le O5_0.lt hg
  have lt29 : g70 < gc1 := Nat.lt_of_lt_of_le R70.1 hg
  have lt30 : w9.heap.size < gc1 := Nat.lt_of_lt_of_le U0.lt hg
  have lt31 : g71 < gc1 := Nat.lt_of_lt_of_le R71.1 hg
  have lt32 : g72 < gc1 := Nat.lt_of_lt_of_le R72.1 hg
  have lt33 : w13.heap.size < gc1 := Nat.lt_of_lt_of_le O9_0.lt hg
  have bzgc1 : w.heap.size ≤ gc1 := Nat.le_trans B.size hg
  replace P0 := P0.below hb
  replace O5_0 := O5_0.below hb
  replace R70 := R70.below hb
  replace U0 := U0.below hb
  replace R71 := R71.below hb
  replace R72 := R72.below hb
  replace O9_0 := O9_0.below hb
  replace B := nxt B hb
  clear hb
  clear hg
  go_wp2_with fail
  refine (eqCellS_any (some ⟨g71, 0, none⟩) (some ⟨gc1, 0, none⟩) n1 n1 n1 n1 _ c1 c1 _ (by omega) (by omega) (Nat.le_refl _) R71.rd Rc1.rd ⟨rfl, fun _ _ => rfl⟩).mono ?_
  rintro e w20 ⟨rfl, hb⟩
  replace P0 := P0.below hb
  replace O5_0 := O5_0.below hb
  replace R70 := R70.below hb
  replace U0 := U0.below hb
  replace R71 := R71.below hb
  replace R72 := R72.below hb
  replace O9_0 := O9_0.below hb
  replace Rc1 := Rc1.below hb
  replace B := nxt B hb
  clear hb
  clear Rc1
  go_wp2_with fail
  refine (toCellS_any A2 n2 ca2 w.heap.size c2 _ (by omega) B.size (HR2.out.below B)).mono ?_
  rintro e w21 ⟨gc2, rfl, hg, hb, Rc2⟩
  have lt34 : w.heap.size < gc2 := Nat.lt_of_lt_of_le P0.lt hg
  have lt35 : w7.heap.size < gc2 := Nat.lt_of_lt_of_le O5_0.lt hg
  have lt36 : g70 < gc2 := Nat.lt_of_lt_of_le R70.1 hg
  have lt37 : w9.heap.size < gc2 := Nat.lt_of_lt_of_le U0.lt hg
  have lt38 : g71 < gc2 := Nat.lt_of_lt_of_le R71.1 hg
  have lt39 : g72 < gc2 := Nat.lt_of_lt_of_le R72.1 hg
  have lt40 : w13.heap.size < gc2 := Nat.lt_of_lt_of_le O9_0.lt hg
  have bzgc2 : w.heap.size ≤ gc2 := Nat.le_trans B.size hg
  replace P0 := P0.below hb
  replace O5_0 := O5_0.below hb
  replace R70 := R70.below hb
  replace U0 := U0.below hb
  replace R71 := R71.below hb
  replace R72 := R72.below hb
  replace O9_0 := O9_0.below hb
  replace B := nxt B hb
  clear hb
  clear hg
  go_wp2_with fail
  refine (eqCellS_any (some ⟨g72, 0, none⟩) (some ⟨gc2, 0, none⟩) n2 n2 n2 n2 _ c2 c2 _ (by omega) (by omega) (Nat.le_refl _) R72.rd Rc2.rd ⟨rfl, fun _ _ => rfl⟩).mono ?_
  rintro e w22 ⟨rfl, hb⟩
  replace P0 := P0.below hb
  replace O5_0 := O5_0.below hb
  replace R70 := R70.below hb
  replace U0 := U0.below hb
  replace R71 := R71.below hb
  replace R72 := R72.below hb
  replace O9_0 := O9_0.below hb
  replace Rc2 := Rc2.below hb
  replace B := nxt B hb
  clear hb
  clear Rc2
  go_wp2_with fail
  go_ret
  exact ⟨rfl, B⟩

theorem big0 (X0 Y0 : Int) (A0 : Option Addr) (n0 ca0 : Nat) (c0 : Nat → Int) (A1 : Option Addr) (n1 ca1 : Nat) (c1 : Nat → Int) (A2 : Option Addr) (n2 ca2 : Nat) (c2 : Nat → Int) (w : World)  (hn : 1048576 < n0) (hm : n0 ≤ 9223372036854775807) :
    Calls Tryd.prog 6 #[.agg #[.int .i8 X0, .int .i8 Y0, .slice A0 n0 ca0], .slice A1 n1 ca1, .slice A2 n2 ca2] w fun e w' => e = .returned (.bool true) ∧ Below w.heap.size w w' := by
  have B : Below w.heap.size w w := Below.refl _ _
  go_enter Tryd.func6, Tryd.ntmps6
  have P0 := (Bx.new w #[.int .i8 X0, .int .i8 Y0, .slice A0 n0 ca0] 25)
  replace B := (al B (Obj.cells #[.int .i8 X0, .int .i8 Y0, .slice A0 n0 ca0] 25))
  go_wp2_with (refine wpList_load_box P0 rfl _ _ rfl rfl _ Tryd.underlying25 rfl (by kernel_rfl) ?_)
  refine (szSquare_big X0 Y0 (1048576) A0 n0 ca0 _ (by omega) (by omega) (by omega) hm).mono ?_
  rintro e w23 ⟨rfl, hb⟩
  replace P0 := P0.below hb
  replace B := nxt B hb
  clear hb
  go_wp2_with fail
  go_ret
  exact ⟨rfl, B⟩

theorem big1 (X0 Y0 : Int) (A0 : Option Addr) (n0 ca0 : Nat) (c0 : Nat → Int) (A1 : Option Addr) (n1 ca1 : Nat) (c1 : Nat → Int) (A2 : Option Addr) (n2 ca2 : Nat) (c2 : Nat → Int) (w : World) (hn0 : n0 ≤ 1048576) (hn : 1048576 < n0 + n1) (hm : n1 ≤ 9223372036854775807) :
    Calls Tryd.prog 6 #[.agg #[.int .i8 X0, .int .i8 Y0, .slice A0 n0 ca0], .slice A1 n1 ca1, .slice A2 n2 ca2] w fun e w' => e = .returned (.bool true) ∧ Below w.heap.size w w' := by
  have B : Below w.heap.size w w := Below.refl _ _
  go_enter Tryd.func6, Tryd.ntmps6
  have P0 := (Bx.new w #[.int .i8 X0, .int .i8 Y0, .slice A0 n0 ca0] 25)
  replace B := (al B (Obj.cells #[.int .i8 X0, .int .i8 Y0, .slice A0 n0 ca0] 25))
  have hz0 : 0 ≤ 1048576 - (n0 : Int) := by omega
  go_wp2_with (refine wpList_load_box P0 rfl _ _ rfl rfl _ Tryd.underlying25 rfl (by kernel_rfl) ?_)
  refine (szSquare_ok X0 Y0 (1048576) A0 n0 ca0 _ (by omega) (by omega) (by omega)).mono ?_
  rintro e w24 ⟨rfl, hb⟩
  replace P0 := P0.below hb
  replace B := nxt B hb
  clear hb
  go_wp2_with fail
  refine (szCellS_big A1 n1 ca1 (1048576 - (n0 : Int)) _ (by omega) (by omega) (by omega) hm).mono ?_
  rintro e w25 ⟨rfl, rfl⟩
  go_wp2_with fail
  go_ret
  exact ⟨rfl, B⟩

theorem big2 (X0 Y0 : Int) (A0 : Option Addr) (n0 ca0 : Nat) (c0 : Nat → Int) (A1 : Option Addr) (n1 ca1 : Nat) (c1 : Nat → Int) (A2 : Option Addr) (n2 ca2 : Nat) (c2 : Nat → Int) (w : World) (hn0 : n0 ≤ 1048576) (hn1 : n0 + n1 ≤ 1048576) (hn : 1048576 < n0 + n1 + n2) (hm : n2 ≤ 9223372036854775807) :
    Calls Tryd.prog 6 #[.agg #[.int .i8 X0, .int .i8 Y0, .slice A0 n0 ca0], .slice A1 n1 ca1, .slice A2 n2 ca2] w fun e w' => e = .returned (.bool true) ∧ Below w.heap.size w w' := by
  have B : Below w.heap.size w w := Below.refl _ _
  go_enter Tryd.func6, Tryd.ntmps6
  have P0 := (Bx.new w #[.int .i8 X0, .int .i8 Y0, .slice A0 n0 ca0] 25)
  replace B := (al B (Obj.cells #[.int .i8 X0, .int .i8 Y0, .slice A0 n0 ca0] 25))
  have hz0 : 0 ≤ 1048576 - (n0 : Int) := by omega
  go_wp2_with (refine wpList_load_box P0 rfl _ _ rfl rfl _ Tryd.underlying25 rfl (by kernel_rfl) ?_)
  refine (szSquare_ok X0 Y0 (1048576) A0 n0 ca0 _ (by omega) (by omega) (by omega)).mono ?_
  rintro e w26 ⟨rfl, hb⟩
  replace P0 := P0.below hb
  replace B := nxt B hb
  clear hb
  have hz1 : 0 ≤ 1048576 - (n0 : Int) - (n1 : Int) := by omega
  go_wp2_with fail
  refine (szCellS_ok A1 n1 ca1 (1048576 - (n0 : Int)) _ (by omega) (by omega) (by omega)).mono ?_
  rintro e w27 ⟨rfl, rfl⟩
  go_wp2_with fail
  refine (szCellS_big A2 n2 ca2 (1048576 - (n0 : Int) - (n1 : Int)) _ (by omega) (by omega) (by omega) hm).mono ?_
  rintro e w28 ⟨rfl, rfl⟩
  go_wp2_with fail
  go_ret
  exact ⟨rfl, B⟩

theorem walk (X0 Y0 : Int) (A0 : Option Addr) (n0 ca0 : Nat) (c0 : Nat → Int) (A1 : Option Addr) (n1 ca1 : Nat) (c1 : Nat → Int) (A2 : Option Addr) (n2 ca2 : Nat) (c2 : Nat → Int) (s0_ s1_ s2_ s3_ : Addr) (w : World) (bX0 : -128 ≤ X0 ∧ X0 ≤ 127) (bY0 : -128 ≤ Y0 ∧ Y0 ≤ 127) (hm0 : n0 ≤ 9223372036854775807) (hc0 : ∀ j, -128 ≤ c0 j ∧ c0 j ≤ 127) (hm1 : n1 ≤ 9223372036854775807) (hc1 : ∀ j, -128 ≤ c1 j ∧ c1 j ≤ 127) (hm2 : n2 ≤ 9223372036854775807) (hc2 : ∀ j, -128 ≤ c2 j ∧ c2 j ≤ 127)
    (hr0 : Rd8 w w.heap.size A0 (4 * n0) c0) (hr1 : RdK .i8 w w.heap.size A1 (2 * n1) c1) (hr2 : RdK .i8 w w.heap.size A2 (2 * n2) c2) (hE : Sent4 w s0_ s1_ s2_ s3_) :
    Calls Tryd.prog 6 #[.agg #[.int .i8 X0, .int .i8 Y0, .slice A0 n0 ca0], .slice A1 n1 ca1, .slice A2 n2 ca2] w fun e w' => e = .returned (.bool true) ∧ Below w.heap.size w w' := by
  by_cases hn0 : 1048576 < n0
  · exact big0 X0 Y0 A0 n0 ca0 c0 A1 n1 ca1 c1 A2 n2 ca2 c2 w  hn0 hm0
  by_cases hn1 : 1048576 < n0 + n1
  · exact big1 X0 Y0 A0 n0 ca0 c0 A1 n1 ca1 c1 A2 n2 ca2 c2 w (by omega) hn1 hm1
  by_cases hn2 : 1048576 < n0 + n1 + n2
  · exact big2 X0 Y0 A0 n0 ca0 c0 A1 n1 ca1 c1 A2 n2 ca2 c2 w (by omega) (by omega) hn2 hm2
  obtain ⟨p0, q0, z1, hS, hI⟩ := both X0 Y0 n0 c0 n1 c1 n2 c2 s0_ s1_ s2_ s3_ w bX0 bY0 hc0 (by omega) hc1 (by omega) hc2 (by omega) hE
  exact law X0 Y0 A0 n0 ca0 c0 A1 n1 ca1 c1 A2 n2 ca2 c2 p0 q0 z1 w (by omega) (by omega) (by omega)  hr0 hr1 hr2 hS hI

end Go.Proofs.YtmkcdelfgaogaaaDoor.meetOf
