/-
  The walk of the law FnExactSameGround. Conditions stand at each.
-/
import Derived.Test.YtegnhpanlbfmdaaRows
import Derived.Test.YtegnhpanlbfmdaaGndT
import Derived.Test.YtegnhpanlbfmdaaGndA
import Derived.Test.YtegnhpanlbfmdaaSameGroundB
import Derived.Deep.RegionHeld3
import Derived.Lib.SmallJoins
namespace Go.Proofs.Ytegnhpanlbfmdaa.sameGround
open Go Go.ChangeShapes Go.WideShapes Go.ChangeAt Go.RowKit
set_option linter.unusedVariables false
set_option linter.unusedSimpArgs false
set_option maxRecDepth 100000
set_option maxHeartbeats 4000000

theorem law (X0 Y0 : Int) (h0 : Nat → Int) (A0 : Option Addr) (n0 ca0 : Nat) (c0 : Nat → Int) (X1 Y1 : Int) (h1 : Nat → Int) (A1 : Option Addr) (n1 ca1 : Nat) (c1 : Nat → Int) (z0 : Bool) (w : World) (hn0 : n0 ≤ 1048576) (hn1 : n0 + n1 ≤ 1048576)
    (hr0 : RdK .i8 w w.heap.size A0 (2 * n0) c0) (hr1 : RdK .i8 w w.heap.size A1 (2 * n1) c1)
    (hS : ∀ (W : World) (G0 G1 : Nat), w.heap.size ≤ W.heap.size → Ac W G0 n0 c0 → Ac W G1 n1 c1 → 
      Calls Try.prog 30 #[.agg (gV X0 Y0 h0 (.slice (some ⟨G0, 0, none⟩) n0 n0)), .agg (gV X1 Y1 h1 (.slice (some ⟨G1, 0, none⟩) n1 n1))] W fun e w' => Below W.heap.size W w' ∧ e = .returned (.bool z0))
    (hI : ∀ (W : World) (G0 G1 : Nat), w.heap.size ≤ W.heap.size → Ac W G0 n0 c0 → Ac W G1 n1 c1 → 
      Calls Try.prog 31 #[.agg (gV X0 Y0 h0 (.slice (some ⟨G0, 0, none⟩) n0 n0)), .agg (gV X1 Y1 h1 (.slice (some ⟨G1, 0, none⟩) n1 n1))] W fun e w' => Below W.heap.size W w' ∧ e = .returned (.bool z0)) :
    Calls Try.prog 4 #[.agg (gV X0 Y0 h0 (.slice A0 n0 ca0)), .agg (gV X1 Y1 h1 (.slice A1 n1 ca1))] w fun e w' => e = .returned (.bool true) ∧ Below w.heap.size w w' := by
  have HS := Lib.hid hS
  have HI := Lib.hid hI
  have HW := Nat.le_refl w.heap.size
  have HR0 := Lib.hid hr0
  have hz0 : 0 ≤ 1048576 - (n0 : Int) := by omega
  have HR1 := Lib.hid hr1
  have hz1 : 0 ≤ 1048576 - (n0 : Int) - (n1 : Int) := by omega
  have hrr0 : (z0 != z0) = false := by simp
  have B : Below w.heap.size w w := Below.refl _ _
  clear hS hI HW hr0 hr1
  go_enter Try.func4, Try.ntmps4
  have P0 := ((Bx.new w (gV X0 Y0 h0 (.slice A0 n0 ca0)) 28).alloc (Obj.cells (gV X1 Y1 h1 (.slice A1 n1 ca1)) 28))
  have P1 := (Bx.newAt (w.alloc (Obj.cells (gV X0 Y0 h0 (.slice A0 n0 ca0)) 28)) (w.heap.size + 1) (gV X1 Y1 h1 (.slice A1 n1 ca1)) 28 (by simp))
  replace B := (al (al B (Obj.cells (gV X0 Y0 h0 (.slice A0 n0 ca0)) 28)) (Obj.cells (gV X1 Y1 h1 (.slice A1 n1 ca1)) 28))
  go_wp2_with (refine wpList_load_box P0 rfl _ _ rfl rfl _ Try.underlying28 rfl (infoLGv _ _ _ _) ?_)
  refine (szGround_ok X0 Y0 (1048576) h0 A0 n0 ca0 _ (by omega) (by omega) (by omega)).mono ?_
  rintro e w1 ⟨rfl, hb⟩
  replace P0 := P0.below hb
  replace P1 := P1.below hb
  replace B := nxt B hb
  clear hb
  go_wp2_with (refine wpList_load_box P1 rfl _ _ rfl rfl _ Try.underlying28 rfl (infoLGv _ _ _ _) ?_)
  refine (szGround_ok X1 Y1 (1048576 - (n0 : Int)) h1 A1 n1 ca1 _ (by omega) (by omega) (by omega)).mono ?_
  rintro e w2 ⟨rfl, hb⟩
  replace P0 := P0.below hb
  replace P1 := P1.below hb
  replace B := nxt B hb
  clear hb
  go_wp2_with fail
  refine wp_region_held_drew (S := (fun w' : World => Bx w' w.heap.size (gV X0 Y0 h0 (.slice A0 n0 ca0)) 28 ∧ Bx w' (w.heap.size + 1) (gV X1 Y1 h1 (.slice A1 n1 ca1)) 28)) (by kernel_rfl) ⟨P0, P1⟩ (fun hHeld => ?_)
  replace P0 := P0.drew
  replace P1 := P1.drew
  replace B := B.drew
  obtain ⟨w3, hW⟩ : ∃ W : World, W = w2.drew := ⟨_, rfl⟩
  rw [← hW] at P0 P1 B hHeld ⊢
  clear hW
  refine wpAnyH_take (i := 0) (oi := _) (v := .agg (gV X0 Y0 h0 (.slice A0 n0 ca0))) rfl (by kernel_rfl) (by kernel_rfl) (by kernel_rfl) (fun _ _ _ h => h) (yields_box (by kernel_rfl) _ _ rfl w.heap.size rfl (gV X0 Y0 h0 (.slice A0 n0 ca0)) 28 (fun _ hS => hS.1) _ Try.underlying28 rfl (infoLGv _ _ _ _)) (by assumption) ?_
  try simp only [List.getElem_toArray, List.getElem_cons_zero, List.getElem_cons_succ, Act.put, List.setIfInBounds_toArray, List.set_cons_zero, List.set_cons_succ]
  refine wpAnyH_take (i := 2) (oi := _) (v := .agg (gV X1 Y1 h1 (.slice A1 n1 ca1))) rfl (by kernel_rfl) (by kernel_rfl) (by kernel_rfl) (fun _ _ _ h => h) (yields_box (by kernel_rfl) _ _ rfl (w.heap.size + 1) rfl (gV X1 Y1 h1 (.slice A1 n1 ca1)) 28 (fun _ hS => hS.2) _ Try.underlying28 rfl (infoLGv _ _ _ _)) (by assumption) ?_
  try simp only [List.getElem_toArray, List.getElem_cons_zero, List.getElem_cons_succ, Act.put, List.setIfInBounds_toArray, List.set_cons_zero, List.set_cons_succ]
  refine wpAnyH_ready (rs := [1]) (by kernel_rfl) (by simp) ?_
  refine AllReadyH.cons (o := _) rfl (fun K hK => ?_) AllReadyH.nil
  go_simp
  refine (toGround_any X0 Y0 h0 A0 n0 ca0 w.heap.size c0 _ (by omega) B.size (HR0.out.below B)).mono ?_
  rintro e w4 ⟨g50, rfl, hg, hb, R50⟩
  have lt0 : w.heap.size < g50 := Nat.lt_of_lt_of_le P0.lt hg
  have lt1 : (w.heap.size + 1) < g50 := Nat.lt_of_lt_of_le P1.lt hg
  have bzg50 : w.heap.size ≤ g50 := Nat.le_trans B.size hg
  replace P0 := P0.below hb
  replace P1 := P1.below hb
  replace B := nxt B hb
  clear hb
  clear hg
  refine hK.out _ _ ⟨P0, P1⟩ (fun hHeld => ?_)
  clear hK K
  try simp only [List.getElem_toArray, List.getElem_cons_zero, List.getElem_cons_succ, Act.put, List.setIfInBounds_toArray, List.set_cons_zero, List.set_cons_succ]
  refine wpAnyH_ready (rs := [3]) (by kernel_rfl) (by simp) ?_
  refine AllReadyH.cons (o := _) rfl (fun K hK => ?_) AllReadyH.nil
  go_simp
  refine (toGround_any X1 Y1 h1 A1 n1 ca1 w.heap.size c1 _ (by omega) B.size (HR1.out.below B)).mono ?_
  rintro e w5 ⟨g51, rfl, hg, hb, R51⟩
  have lt2 : w.heap.size < g51 := Nat.lt_of_lt_of_le P0.lt hg
  have lt3 : (w.heap.size + 1) < g51 := Nat.lt_of_lt_of_le P1.lt hg
  have lt4 : g50 < g51 := Nat.lt_of_lt_of_le R50.1 hg
  have bzg51 : w.heap.size ≤ g51 := Nat.le_trans B.size hg
  replace P0 := P0.below hb
  replace P1 := P1.below hb
  replace R50 := R50.below hb
  replace B := nxt B hb
  clear hb
  clear hg
  refine hK.out _ _ ⟨P0, P1⟩ (fun hHeld => ?_)
  clear hK K
  try simp only [List.getElem_toArray, List.getElem_cons_zero, List.getElem_cons_succ, Act.put, List.setIfInBounds_toArray, List.set_cons_zero, List.set_cons_succ]
  refine wpAnyH_ready (rs := [4]) (by kernel_rfl) (by simp) ?_
  refine AllReadyH.cons (o := _) rfl (fun K hK => ?_) AllReadyH.nil
  go_simp
  refine (HS.out _ g50 g51 B.size R50 R51).mono ?_
  rintro e w6 ⟨hb, rfl⟩
  replace P0 := P0.below hb
  replace P1 := P1.below hb
  replace R50 := R50.below hb
  replace R51 := R51.below hb
  replace B := nxt B hb
  clear hb
  refine hK.out _ _ ⟨P0, P1⟩ (fun hHeld => ?_)
  clear hK K
  try simp only [List.getElem_toArray, List.getElem_cons_zero, List.getElem_cons_succ, Act.put, List.setIfInBounds_toArray, List.set_cons_zero, List.set_cons_succ]
  refine wpAnyH_take (i := 5) (oi := _) (v := ?_) rfl (by kernel_rfl) (by kernel_rfl) (by kernel_rfl) (fun _ _ _ h => h) (Or.inl ⟨by kernel_rfl, ?_⟩) (by assumption) ?_
  rotate_left
  · intro w hSw; (try dsimp only at hSw); go_simp; first | done | with_reducible rfl
  try simp only [List.getElem_toArray, List.getElem_cons_zero, List.getElem_cons_succ, Act.put, List.setIfInBounds_toArray, List.set_cons_zero, List.set_cons_succ]
  refine wpAnyH_done (by kernel_rfl) ?_ _
  clear R50
  clear R51
  go_wp2_with (refine wpList_load_box P0 rfl _ _ rfl rfl _ Try.underlying28 rfl (infoLGv _ _ _ _) ?_)
  refine (toGround_any X0 Y0 h0 A0 n0 ca0 w.heap.size c0 _ (by omega) B.size (HR0.out.below B)).mono ?_
  rintro e w7 ⟨g70, rfl, hg, hb, R70⟩
  have lt5 : w.heap.size < g70 := Nat.lt_of_lt_of_le P0.lt hg
  have lt6 : (w.heap.size + 1) < g70 := Nat.lt_of_lt_of_le P1.lt hg
  have bzg70 : w.heap.size ≤ g70 := Nat.le_trans B.size hg
  replace P0 := P0.below hb
  replace P1 := P1.below hb
  replace B := nxt B hb
  clear hb
  clear hg
  go_wp2_with (first
    | (refine wpList_store_new rfl _ _ _ rfl rfl rfl (infoGv _ _ _ _) (by rw [zsize]) (gV_one _ _ _ _ _ _) ?_
       have lt7 : w.heap.size < w7.heap.size := P0.lt
       have lt8 : (w.heap.size + 1) < w7.heap.size := P1.lt
       have lt9 : g70 < w7.heap.size := R70.1
       have U0 := Bx.new w7 (gV X0 Y0 h0 (.slice (some ⟨g70, 0, none⟩) n0 n0)) 33
       replace P0 := P0.alloc (.cells (gV X0 Y0 h0 (.slice (some ⟨g70, 0, none⟩) n0 n0)) 33)
       replace P1 := P1.alloc (.cells (gV X0 Y0 h0 (.slice (some ⟨g70, 0, none⟩) n0 n0)) 33)
       replace R70 := R70.alloc (.cells (gV X0 Y0 h0 (.slice (some ⟨g70, 0, none⟩) n0 n0)) 33)
       replace B := al B (.cells (gV X0 Y0 h0 (.slice (some ⟨g70, 0, none⟩) n0 n0)) 33)
       obtain ⟨w8, hW⟩ : ∃ W : World, W = w7.alloc (.cells (gV X0 Y0 h0 (.slice (some ⟨g70, 0, none⟩) n0 n0)) 33) := ⟨_, rfl⟩
       rw [← hW] at P0 P1 R70 U0 B ⊢
       clear hW)
    | (refine wpList_load_box P1 rfl _ _ rfl rfl _ Try.underlying28 rfl (infoLGv _ _ _ _) ?_))
  refine (toGround_any X1 Y1 h1 A1 n1 ca1 w.heap.size c1 _ (by omega) B.size (HR1.out.below B)).mono ?_
  rintro e w9 ⟨g71, rfl, hg, hb, R71⟩
  have lt10 : w.heap.size < g71 := Nat.lt_of_lt_of_le P0.lt hg
  have lt11 : (w.heap.size + 1) < g71 := Nat.lt_of_lt_of_le P1.lt hg
  have lt12 : g70 < g71 := Nat.lt_of_lt_of_le R70.1 hg
  have lt13 : w7.heap.size < g71 := Nat.lt_of_lt_of_le U0.lt hg
  have bzg71 : w.heap.size ≤ g71 := Nat.le_trans B.size hg
  replace P0 := P0.below hb
  replace P1 := P1.below hb
  replace R70 := R70.below hb
  replace U0 := U0.below hb
  replace B := nxt B hb
  clear hb
  clear hg
  go_wp2_with (first
    | (refine wpList_store_new rfl _ _ _ rfl rfl rfl (infoGv _ _ _ _) (by rw [zsize]) (gV_one _ _ _ _ _ _) ?_
       have lt14 : w.heap.size < w9.heap.size := P0.lt
       have lt15 : (w.heap.size + 1) < w9.heap.size := P1.lt
       have lt16 : g70 < w9.heap.size := R70.1
       have lt17 : w7.heap.size < w9.heap.size := U0.lt
       have lt18 : g71 < w9.heap.size := R71.1
       have U1 := Bx.new w9 (gV X1 Y1 h1 (.slice (some ⟨g71, 0, none⟩) n1 n1)) 33
       replace P0 := P0.alloc (.cells (gV X1 Y1 h1 (.slice (some ⟨g71, 0, none⟩) n1 n1)) 33)
       replace P1 := P1.alloc (.cells (gV X1 Y1 h1 (.slice (some ⟨g71, 0, none⟩) n1 n1)) 33)
       replace R70 := R70.alloc (.cells (gV X1 Y1 h1 (.slice (some ⟨g71, 0, none⟩) n1 n1)) 33)
       replace U0 := U0.alloc (.cells (gV X1 Y1 h1 (.slice (some ⟨g71, 0, none⟩) n1 n1)) 33)
       replace R71 := R71.alloc (.cells (gV X1 Y1 h1 (.slice (some ⟨g71, 0, none⟩) n1 n1)) 33)
       replace B := al B (.cells (gV X1 Y1 h1 (.slice (some ⟨g71, 0, none⟩) n1 n1)) 33)
       obtain ⟨w10, hW⟩ : ∃ W : World, W = w9.alloc (.cells (gV X1 Y1 h1 (.slice (some ⟨g71, 0, none⟩) n1 n1)) 33) := ⟨_, rfl⟩
       rw [← hW] at P0 P1 R70 U0 R71 U1 B ⊢
       clear hW)
    | (refine wpList_load_box U0 rfl _ _ rfl rfl _ Try.underlying33 rfl (infoGv _ _ _ _) ?_)
    | (refine wpList_load_box U1 rfl _ _ rfl rfl _ Try.underlying33 rfl (infoGv _ _ _ _) ?_))
  refine (HI.out _ g70 g71 B.size R70 R71).mono ?_
  rintro e w11 ⟨hb, rfl⟩
  replace P0 := P0.below hb
  replace P1 := P1.below hb
  replace R70 := R70.below hb
  replace U0 := U0.below hb
  replace R71 := R71.below hb
  replace U1 := U1.below hb
  replace B := nxt B hb
  clear hb
  go_wp2_with fail
  refine wp_region_held_drew (S := (fun w' : World => Bx w' w7.heap.size (gV X0 Y0 h0 (.slice (some ⟨g70, 0, none⟩) n0 n0)) 33 ∧ Bx w' w.heap.size (gV X0 Y0 h0 (.slice A0 n0 ca0)) 28)) (by kernel_rfl) ⟨U0, P0⟩ (fun hHeld => ?_)
  replace P0 := P0.drew
  replace P1 := P1.drew
  replace R70 := R70.drew
  replace U0 := U0.drew
  replace R71 := R71.drew
  replace U1 := U1.drew
  replace B := B.drew
  obtain ⟨w12, hW⟩ : ∃ W : World, W = w11.drew := ⟨_, rfl⟩
  rw [← hW] at P0 P1 R70 U0 R71 U1 B hHeld ⊢
  clear hW
  refine wpAnyH_take (i := 0) (oi := _) (v := .agg (gV X0 Y0 h0 (.slice (some ⟨g70, 0, none⟩) n0 n0))) rfl (by kernel_rfl) (by kernel_rfl) (by kernel_rfl) (fun _ _ _ h => h) (yields_box (by kernel_rfl) _ _ rfl w7.heap.size rfl (gV X0 Y0 h0 (.slice (some ⟨g70, 0, none⟩) n0 n0)) 33 (fun _ hS => hS.1) _ Try.underlying33 rfl (infoGv _ _ _ _)) (by assumption) ?_
  try simp only [List.getElem_toArray, List.getElem_cons_zero, List.getElem_cons_succ, Act.put, List.setIfInBounds_toArray, List.set_cons_zero, List.set_cons_succ]
  refine wpAnyH_take (i := 1) (oi := _) (v := .agg (gV X0 Y0 h0 (.slice A0 n0 ca0))) rfl (by kernel_rfl) (by kernel_rfl) (by kernel_rfl) (fun _ _ _ h => h) (yields_box (by kernel_rfl) _ _ rfl w.heap.size rfl (gV X0 Y0 h0 (.slice A0 n0 ca0)) 28 (fun _ hS => hS.2) _ Try.underlying28 rfl (infoLGv _ _ _ _)) (by assumption) ?_
  try simp only [List.getElem_toArray, List.getElem_cons_zero, List.getElem_cons_succ, Act.put, List.setIfInBounds_toArray, List.set_cons_zero, List.set_cons_succ]
  refine wpAnyH_ready (rs := [2]) (by kernel_rfl) (by simp) ?_
  refine AllReadyH.cons (o := _) rfl (fun K hK => ?_) AllReadyH.nil
  go_simp
  refine (toGround_any X0 Y0 h0 A0 n0 ca0 w.heap.size c0 _ (by omega) B.size (HR0.out.below B)).mono ?_
  rintro e w13 ⟨gc0, rfl, hg, hb, Rc0⟩
  replace P0 := P0.below hb
  replace P1 := P1.below hb
  replace R70 := R70.below hb
  replace U0 := U0.below hb
  replace R71 := R71.below hb
  replace U1 := U1.below hb
  replace B := nxt B hb
  clear hb
  clear hg
  refine hK.out _ _ ⟨U0, P0⟩ (fun hHeld => ?_)
  clear hK K
  try simp only [List.getElem_toArray, List.getElem_cons_zero, List.getElem_cons_succ, Act.put, List.setIfInBounds_toArray, List.set_cons_zero, List.set_cons_succ]
  refine wpAnyH_ready (rs := [3]) (by kernel_rfl) (by simp) ?_
  refine AllReadyH.cons (o := _) rfl (fun K hK => ?_) AllReadyH.nil
  go_simp
  refine (eqGround_yes X0 Y0 h0 (some ⟨g70, 0, none⟩) (some ⟨gc0, 0, none⟩) n0 n0 n0 n0 _ c0 c0 _ (by omega) (by omega) (Nat.le_refl _) R70.rd Rc0.rd ⟨rfl, fun _ _ => rfl⟩).mono ?_
  rintro e w14 ⟨rfl, hb⟩
  replace P0 := P0.below hb
  replace P1 := P1.below hb
  replace R70 := R70.below hb
  replace U0 := U0.below hb
  replace R71 := R71.below hb
  replace U1 := U1.below hb
  replace Rc0 := Rc0.below hb
  replace B := nxt B hb
  clear hb
  refine hK.out _ _ ⟨U0, P0⟩ (fun hHeld => ?_)
  clear hK K
  try simp only [List.getElem_toArray, List.getElem_cons_zero, List.getElem_cons_succ, Act.put, List.setIfInBounds_toArray, List.set_cons_zero, List.set_cons_succ]
  refine wpAnyH_take (i := 4) (oi := _) (v := ?_) rfl (by kernel_rfl) (by kernel_rfl) (by kernel_rfl) (fun _ _ _ h => h) (Or.inl ⟨by kernel_rfl, ?_⟩) (by assumption) ?_
  rotate_left
  · intro w hSw; (try dsimp only at hSw); go_simp; first | done | with_reducible rfl
  try simp only [List.getElem_toArray, List.getElem_cons_zero, List.getElem_cons_succ, Act.put, List.setIfInBounds_toArray, List.set_cons_zero, List.set_cons_succ]
  refine wpAnyH_done (by kernel_rfl) ?_ _
  clear Rc0
  go_wp2_with fail
  refine wp_region_held_drew (S := (fun w' : World => Bx w' w9.heap.size (gV X1 Y1 h1 (.slice (some ⟨g71, 0, none⟩) n1 n1)) 33 ∧ Bx w' (w.heap.size + 1) (gV X1 Y1 h1 (.slice A1 n1 ca1)) 28)) (by kernel_rfl) ⟨U1, P1⟩ (fun hHeld => ?_)
  replace P0 := P0.drew
  replace P1 := P1.drew
  replace R70 := R70.drew
  replace U0 := U0.drew
  replace R71 := R71.drew
  replace U1 := U1.drew
  replace B := B.drew
  obtain ⟨w15, hW⟩ : ∃ W : World, W = w14.drew := ⟨_, rfl⟩
  rw [← hW] at P0 P1 R70 U0 R71 U1 B hHeld ⊢
  clear hW
  refine wpAnyH_take (i := 0) (oi := _) (v := .agg (gV X1 Y1 h1 (.slice (some ⟨g71, 0, none⟩) n1 n1))) rfl (by kernel_rfl) (by kernel_rfl) (by kernel_rfl) (fun _ _ _ h => h) (yields_box (by kernel_rfl) _ _ rfl w9.heap.size rfl (gV X1 Y1 h1 (.slice (some ⟨g71, 0, none⟩) n1 n1)) 33 (fun _ hS => hS.1) _ Try.underlying33 rfl (infoGv _ _ _ _)) (by assumption) ?_
  try simp only [List.getElem_toArray, List.getElem_cons_zero, List.getElem_cons_succ, Act.put, List.setIfInBounds_toArray, List.set_cons_zero, List.set_cons_succ]
  refine wpAnyH_take (i := 1) (oi := _) (v := .agg (gV X1 Y1 h1 (.slice A1 n1 ca1))) rfl (by kernel_rfl) (by kernel_rfl) (by kernel_rfl) (fun _ _ _ h => h) (yields_box (by kernel_rfl) _ _ rfl (w.heap.size + 1) rfl (gV X1 Y1 h1 (.slice A1 n1 ca1)) 28 (fun _ hS => hS.2) _ Try.underlying28 rfl (infoLGv _ _ _ _)) (by assumption) ?_
  try simp only [List.getElem_toArray, List.getElem_cons_zero, List.getElem_cons_succ, Act.put, List.setIfInBounds_toArray, List.set_cons_zero, List.set_cons_succ]
  refine wpAnyH_ready (rs := [2]) (by kernel_rfl) (by simp) ?_
  refine AllReadyH.cons (o := _) rfl (fun K hK => ?_) AllReadyH.nil
  go_simp
  refine (toGround_any X1 Y1 h1 A1 n1 ca1 w.heap.size c1 _ (by omega) B.size (HR1.out.below B)).mono ?_
  rintro e w16 ⟨gc1, rfl, hg, hb, Rc1⟩
  replace P0 := P0.below hb
  replace P1 := P1.below hb
  replace R70 := R70.below hb
  replace U0 := U0.below hb
  replace R71 := R71.below hb
  replace U1 := U1.below hb
  replace B := nxt B hb
  clear hb
  clear hg
  refine hK.out _ _ ⟨U1, P1⟩ (fun hHeld => ?_)
  clear hK K
  try simp only [List.getElem_toArray, List.getElem_cons_zero, List.getElem_cons_succ, Act.put, List.setIfInBounds_toArray, List.set_cons_zero, List.set_cons_succ]
  refine wpAnyH_ready (rs := [3]) (by kernel_rfl) (by simp) ?_
  refine AllReadyH.cons (o := _) rfl (fun K hK => ?_) AllReadyH.nil
  go_simp
  refine (eqGround_yes X1 Y1 h1 (some ⟨g71, 0, none⟩) (some ⟨gc1, 0, none⟩) n1 n1 n1 n1 _ c1 c1 _ (by omega) (by omega) (Nat.le_refl _) R71.rd Rc1.rd ⟨rfl, fun _ _ => rfl⟩).mono ?_
  rintro e w17 ⟨rfl, hb⟩
  replace P0 := P0.below hb
  replace P1 := P1.below hb
  replace R70 := R70.below hb
  replace U0 := U0.below hb
  replace R71 := R71.below hb
  replace U1 := U1.below hb
  replace Rc1 := Rc1.below hb
  replace B := nxt B hb
  clear hb
  refine hK.out _ _ ⟨U1, P1⟩ (fun hHeld => ?_)
  clear hK K
  try simp only [List.getElem_toArray, List.getElem_cons_zero, List.getElem_cons_succ, Act.put, List.setIfInBounds_toArray, List.set_cons_zero, List.set_cons_succ]
  refine wpAnyH_take (i := 4) (oi := _) (v := ?_) rfl (by kernel_rfl) (by kernel_rfl) (by kernel_rfl) (fun _ _ _ h => h) (Or.inl ⟨by kernel_rfl, ?_⟩) (by assumption) ?_
  rotate_left
  · intro w hSw; (try dsimp only at hSw); go_simp; first | done | with_reducible rfl
  try simp only [List.getElem_toArray, List.getElem_cons_zero, List.getElem_cons_succ, Act.put, List.setIfInBounds_toArray, List.set_cons_zero, List.set_cons_succ]
  refine wpAnyH_done (by kernel_rfl) ?_ _
  clear Rc1
  go_wp2_with fail
  go_ret
  exact ⟨rfl, B⟩

theorem big0 (X0 Y0 : Int) (h0 : Nat → Int) (A0 : Option Addr) (n0 ca0 : Nat) (c0 : Nat → Int) (X1 Y1 : Int) (h1 : Nat → Int) (A1 : Option Addr) (n1 ca1 : Nat) (c1 : Nat → Int) (w : World)  (hn : 1048576 < n0) (hm : n0 ≤ 9223372036854775807) :
    Calls Try.prog 4 #[.agg (gV X0 Y0 h0 (.slice A0 n0 ca0)), .agg (gV X1 Y1 h1 (.slice A1 n1 ca1))] w fun e w' => e = .returned (.bool true) ∧ Below w.heap.size w w' := by
  have B : Below w.heap.size w w := Below.refl _ _
  go_enter Try.func4, Try.ntmps4
  have P0 := ((Bx.new w (gV X0 Y0 h0 (.slice A0 n0 ca0)) 28).alloc (Obj.cells (gV X1 Y1 h1 (.slice A1 n1 ca1)) 28))
  have P1 := (Bx.newAt (w.alloc (Obj.cells (gV X0 Y0 h0 (.slice A0 n0 ca0)) 28)) (w.heap.size + 1) (gV X1 Y1 h1 (.slice A1 n1 ca1)) 28 (by simp))
  replace B := (al (al B (Obj.cells (gV X0 Y0 h0 (.slice A0 n0 ca0)) 28)) (Obj.cells (gV X1 Y1 h1 (.slice A1 n1 ca1)) 28))
  go_wp2_with (refine wpList_load_box P0 rfl _ _ rfl rfl _ Try.underlying28 rfl (infoLGv _ _ _ _) ?_)
  refine (szGround_big X0 Y0 (1048576) h0 A0 n0 ca0 _ (by omega) (by omega) (by omega) hm).mono ?_
  rintro e w18 ⟨rfl, hb⟩
  replace P0 := P0.below hb
  replace P1 := P1.below hb
  replace B := nxt B hb
  clear hb
  go_wp2_with fail
  go_ret
  exact ⟨rfl, B⟩

theorem big1 (X0 Y0 : Int) (h0 : Nat → Int) (A0 : Option Addr) (n0 ca0 : Nat) (c0 : Nat → Int) (X1 Y1 : Int) (h1 : Nat → Int) (A1 : Option Addr) (n1 ca1 : Nat) (c1 : Nat → Int) (w : World) (hn0 : n0 ≤ 1048576) (hn : 1048576 < n0 + n1) (hm : n1 ≤ 9223372036854775807) :
    Calls Try.prog 4 #[.agg (gV X0 Y0 h0 (.slice A0 n0 ca0)), .agg (gV X1 Y1 h1 (.slice A1 n1 ca1))] w fun e w' => e = .returned (.bool true) ∧ Below w.heap.size w w' := by
  have B : Below w.heap.size w w := Below.refl _ _
  go_enter Try.func4, Try.ntmps4
  have P0 := ((Bx.new w (gV X0 Y0 h0 (.slice A0 n0 ca0)) 28).alloc (Obj.cells (gV X1 Y1 h1 (.slice A1 n1 ca1)) 28))
  have P1 := (Bx.newAt (w.alloc (Obj.cells (gV X0 Y0 h0 (.slice A0 n0 ca0)) 28)) (w.heap.size + 1) (gV X1 Y1 h1 (.slice A1 n1 ca1)) 28 (by simp))
  replace B := (al (al B (Obj.cells (gV X0 Y0 h0 (.slice A0 n0 ca0)) 28)) (Obj.cells (gV X1 Y1 h1 (.slice A1 n1 ca1)) 28))
  have hz0 : 0 ≤ 1048576 - (n0 : Int) := by omega
  go_wp2_with (refine wpList_load_box P0 rfl _ _ rfl rfl _ Try.underlying28 rfl (infoLGv _ _ _ _) ?_)
  refine (szGround_ok X0 Y0 (1048576) h0 A0 n0 ca0 _ (by omega) (by omega) (by omega)).mono ?_
  rintro e w19 ⟨rfl, hb⟩
  replace P0 := P0.below hb
  replace P1 := P1.below hb
  replace B := nxt B hb
  clear hb
  go_wp2_with (refine wpList_load_box P1 rfl _ _ rfl rfl _ Try.underlying28 rfl (infoLGv _ _ _ _) ?_)
  refine (szGround_big X1 Y1 (1048576 - (n0 : Int)) h1 A1 n1 ca1 _ (by omega) (by omega) (by omega) hm).mono ?_
  rintro e w20 ⟨rfl, hb⟩
  replace P0 := P0.below hb
  replace P1 := P1.below hb
  replace B := nxt B hb
  clear hb
  go_wp2_with fail
  go_ret
  exact ⟨rfl, B⟩

theorem walk (X0 Y0 : Int) (h0 : Nat → Int) (A0 : Option Addr) (n0 ca0 : Nat) (c0 : Nat → Int) (X1 Y1 : Int) (h1 : Nat → Int) (A1 : Option Addr) (n1 ca1 : Nat) (c1 : Nat → Int) (w : World) (bX0 : -128 ≤ X0 ∧ X0 ≤ 127) (bY0 : -128 ≤ Y0 ∧ Y0 ≤ 127) (bh0 : ∀ p, -32768 ≤ h0 p ∧ h0 p ≤ 32767) (hm0 : n0 ≤ 9223372036854775807) (hc0 : ∀ j, -128 ≤ c0 j ∧ c0 j ≤ 127) (bX1 : -128 ≤ X1 ∧ X1 ≤ 127) (bY1 : -128 ≤ Y1 ∧ Y1 ≤ 127) (bh1 : ∀ p, -32768 ≤ h1 p ∧ h1 p ≤ 32767) (hm1 : n1 ≤ 9223372036854775807) (hc1 : ∀ j, -128 ≤ c1 j ∧ c1 j ≤ 127)
    (hr0 : RdK .i8 w w.heap.size A0 (2 * n0) c0) (hr1 : RdK .i8 w w.heap.size A1 (2 * n1) c1) :
    Calls Try.prog 4 #[.agg (gV X0 Y0 h0 (.slice A0 n0 ca0)), .agg (gV X1 Y1 h1 (.slice A1 n1 ca1))] w fun e w' => e = .returned (.bool true) ∧ Below w.heap.size w w' := by
  by_cases hn0 : 1048576 < n0
  · exact big0 X0 Y0 h0 A0 n0 ca0 c0 X1 Y1 h1 A1 n1 ca1 c1 w  hn0 hm0
  by_cases hn1 : 1048576 < n0 + n1
  · exact big1 X0 Y0 h0 A0 n0 ca0 c0 X1 Y1 h1 A1 n1 ca1 c1 w (by omega) hn1 hm1
  obtain ⟨z0, hS, hI⟩ := both X0 Y0 h0 n0 c0 X1 Y1 h1 n1 c1 bX0 bY0 bh0 hc0 (by omega) bX1 bY1 bh1 hc1 (by omega)
  exact law X0 Y0 h0 A0 n0 ca0 c0 X1 Y1 h1 A1 n1 ca1 c1 z0 w (by omega) (by omega) hr0 hr1 (fun W G0 G1 _ R0 R1 => hS W G0 G1 R0 R1) (fun W G0 G1 _ R0 R1 => hI W G0 G1 R0 R1)

end Go.Proofs.Ytegnhpanlbfmdaa.sameGround
