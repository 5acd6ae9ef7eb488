/-
  The walk of the law FnExactSteepestFall. Conditions stand at each.
-/
import Derived.Test.YtegnhpanlbfmdaaRows
import Derived.Test.YtegnhpanlbfmdaaGndT
import Derived.Test.YtegnhpanlbfmdaaGndA
import Derived.Test.YtegnhpanlbfmdaaSteepestFallB
import Derived.Deep.RegionHeld3
import Derived.Deep.DeepCutAuto
import Derived.Lib.SmallJoins
namespace Go.Proofs.Ytegnhpanlbfmdaa.steepestFall
open Go Go.ChangeShapes Go.WideShapes Go.ChangeAt Go.RowKit
set_option linter.unusedVariables false
set_option linter.unusedSimpArgs false
set_option maxRecDepth 100000
set_option maxHeartbeats 4000000

theorem law (X0 Y0 : Int) (h0 : Nat → Int) (A0 : Option Addr) (n0 ca0 : Nat) (c0 : Nat → Int) (p0 q0 : Int) (p1 q1 : Int) (z2 : Int) (z3 : Int) (w : World) (hn0 : n0 ≤ 1048576)
    (hr0 : RdK .i8 w w.heap.size A0 (2 * n0) c0)
    (hS : ∀ (W : World) (G0 : Nat), w.heap.size ≤ W.heap.size → Ac W G0 n0 c0 → 
      Calls Try.prog 48 #[.agg (gV X0 Y0 h0 (.slice (some ⟨G0, 0, none⟩) n0 n0))] W fun e w' => Below W.heap.size W w' ∧ e = .returned (.tuple #[.agg #[.int .i8 p0, .int .i8 q0], .agg #[.int .i8 p1, .int .i8 q1], .int .i64 z2, .int .i64 z3]))
    (hI : ∀ (W : World) (G0 : Nat), w.heap.size ≤ W.heap.size → Ac W G0 n0 c0 → 
      Calls Try.prog 49 #[.agg (gV X0 Y0 h0 (.slice (some ⟨G0, 0, none⟩) n0 n0))] W fun e w' => Below W.heap.size W w' ∧ e = .returned (.tuple #[.agg #[.int .i8 p0, .int .i8 q0], .agg #[.int .i8 p1, .int .i8 q1], .int .i64 z2, .int .i64 z3])) :
    Calls Try.prog 10 #[.agg (gV X0 Y0 h0 (.slice A0 n0 ca0))] w fun e w' => e = .returned (.bool true) ∧ Below w.heap.size w w' := by
  have HS := Lib.hid hS
  have HI := Lib.hid hI
  have HW := Nat.le_refl w.heap.size
  have HR0 := Lib.hid hr0
  have hz0 : 0 ≤ 1048576 - (n0 : Int) := by omega
  have hrr2 : (z2 != z2) = false := by simp
  have hrr3 : (z3 != z3) = false := by simp
  have B : Below w.heap.size w w := Below.refl _ _
  clear hS hI HW hr0
  go_enter Try.func10, Try.ntmps10
  have P0 := (Bx.new w (gV X0 Y0 h0 (.slice A0 n0 ca0)) 28)
  replace B := (al B (Obj.cells (gV X0 Y0 h0 (.slice A0 n0 ca0)) 28))
  go_wp2_with (refine wpList_load_box P0 rfl _ _ rfl rfl _ Try.underlying28 rfl (infoLGv _ _ _ _) ?_)
  refine (szGround_ok X0 Y0 (1048576) h0 A0 n0 ca0 _ (by omega) (by omega) (by omega)).mono ?_
  rintro e w1 ⟨rfl, hb⟩
  replace P0 := P0.below hb
  replace B := nxt B hb
  clear hb
  go_wp2_with (refine wpList_load_box P0 rfl _ _ rfl rfl _ Try.underlying28 rfl (infoLGv _ _ _ _) ?_)
  refine (toGround_any X0 Y0 h0 A0 n0 ca0 w.heap.size c0 _ (by omega) B.size (HR0.out.below B)).mono ?_
  rintro e w2 ⟨g50, rfl, hg, hb, R50⟩
  have lt0 : w.heap.size < g50 := Nat.lt_of_lt_of_le P0.lt hg
  have bzg50 : w.heap.size ≤ g50 := Nat.le_trans B.size hg
  replace P0 := P0.below hb
  replace B := nxt B hb
  clear hb
  clear hg
  go_wp2_with fail
  refine (HS.out _ g50 B.size R50).mono ?_
  rintro e w3 ⟨hb, rfl⟩
  replace P0 := P0.below hb
  replace R50 := R50.below hb
  replace B := nxt B hb
  clear hb
  clear R50
  go_wp2_with (first
    | (refine wpList_load_box (((P0).alloc (.cells #[.int .i8 p0, .int .i8 q0] 40)).alloc (.cells #[.int .i8 p1, .int .i8 q1] 40)) rfl _ _ rfl rfl _ Try.underlying28 rfl (infoLGv _ _ _ _) ?_
       have lt1 : w.heap.size < w3.heap.size := P0.lt
       have O5_0 := Bx.newAt w3 (w3.heap.size) #[.int .i8 p0, .int .i8 q0] 40 (by simp)
       replace P0 := P0.alloc (.cells #[.int .i8 p0, .int .i8 q0] 40)
       replace B := al B (.cells #[.int .i8 p0, .int .i8 q0] 40)
       have lt2 : w.heap.size < w3.heap.size + 1 := by have h0 := P0.lt; rw [World.size_alloc] at h0; exact h0
       have lt3 : w3.heap.size < w3.heap.size + 1 := by have h0 := O5_0.lt; rw [World.size_alloc] at h0; exact h0
       have O5_1 := Bx.newAt (w3.alloc (.cells #[.int .i8 p0, .int .i8 q0] 40)) (w3.heap.size + 1) #[.int .i8 p1, .int .i8 q1] 40 (by simp)
       replace P0 := P0.alloc (.cells #[.int .i8 p1, .int .i8 q1] 40)
       replace O5_0 := O5_0.alloc (.cells #[.int .i8 p1, .int .i8 q1] 40)
       replace B := al B (.cells #[.int .i8 p1, .int .i8 q1] 40)
       obtain ⟨w4, hW⟩ : ∃ W : World, W = ((w3.alloc (.cells #[.int .i8 p0, .int .i8 q0] 40)).alloc (.cells #[.int .i8 p1, .int .i8 q1] 40)) := ⟨_, rfl⟩
       rw [← hW] at P0 O5_0 O5_1 B ⊢
       clear hW))
  refine (toGround_any X0 Y0 h0 A0 n0 ca0 w.heap.size c0 _ (by omega) B.size (HR0.out.below B)).mono ?_
  rintro e w5 ⟨g70, rfl, hg, hb, R70⟩
  have lt4 : w.heap.size < g70 := Nat.lt_of_lt_of_le P0.lt hg
  have lt5 : w3.heap.size < g70 := Nat.lt_of_lt_of_le O5_0.lt hg
  have lt6 : (w3.heap.size + 1) < g70 := Nat.lt_of_lt_of_le O5_1.lt hg
  have bzg70 : w.heap.size ≤ g70 := Nat.le_trans B.size hg
  replace P0 := P0.below hb
  replace O5_0 := O5_0.below hb
  replace O5_1 := O5_1.below hb
  replace B := nxt B hb
  clear hb
  clear hg
  go_wp2_with (first
    | (refine wpList_store_new rfl _ _ _ rfl rfl rfl (infoGv _ _ _ _) (by rw [zsize]) (gV_one _ _ _ _ _ _) ?_
       have lt7 : w.heap.size < w5.heap.size := P0.lt
       have lt8 : w3.heap.size < w5.heap.size := O5_0.lt
       have lt9 : (w3.heap.size + 1) < w5.heap.size := O5_1.lt
       have lt10 : g70 < w5.heap.size := R70.1
       have U0 := Bx.new w5 (gV X0 Y0 h0 (.slice (some ⟨g70, 0, none⟩) n0 n0)) 33
       replace P0 := P0.alloc (.cells (gV X0 Y0 h0 (.slice (some ⟨g70, 0, none⟩) n0 n0)) 33)
       replace O5_0 := O5_0.alloc (.cells (gV X0 Y0 h0 (.slice (some ⟨g70, 0, none⟩) n0 n0)) 33)
       replace O5_1 := O5_1.alloc (.cells (gV X0 Y0 h0 (.slice (some ⟨g70, 0, none⟩) n0 n0)) 33)
       replace R70 := R70.alloc (.cells (gV X0 Y0 h0 (.slice (some ⟨g70, 0, none⟩) n0 n0)) 33)
       replace B := al B (.cells (gV X0 Y0 h0 (.slice (some ⟨g70, 0, none⟩) n0 n0)) 33)
       obtain ⟨w6, hW⟩ : ∃ W : World, W = w5.alloc (.cells (gV X0 Y0 h0 (.slice (some ⟨g70, 0, none⟩) n0 n0)) 33) := ⟨_, rfl⟩
       rw [← hW] at P0 O5_0 O5_1 R70 U0 B ⊢
       clear hW)
    | (refine wpList_load_box U0 rfl _ _ rfl rfl _ Try.underlying33 rfl (infoGv _ _ _ _) ?_))
  refine (HI.out _ g70 B.size R70).mono ?_
  rintro e w7 ⟨hb, rfl⟩
  replace P0 := P0.below hb
  replace O5_0 := O5_0.below hb
  replace O5_1 := O5_1.below hb
  replace R70 := R70.below hb
  replace U0 := U0.below hb
  replace B := nxt B hb
  clear hb
  go_wp2_with (first
    | (refine wpList_load_box ((Bx.newAt w7 (w7.heap.size) #[.int .i8 p0, .int .i8 q0] 40 (by simp)).alloc (.cells #[.int .i8 p1, .int .i8 q1] 40)) rfl _ _ rfl rfl _ Try.underlying40 rfl (by kernel_rfl) ?_
       have lt11 : w.heap.size < w7.heap.size := P0.lt
       have lt12 : w3.heap.size < w7.heap.size := O5_0.lt
       have lt13 : (w3.heap.size + 1) < w7.heap.size := O5_1.lt
       have lt14 : g70 < w7.heap.size := R70.1
       have lt15 : w5.heap.size < w7.heap.size := U0.lt
       have O9_0 := Bx.newAt w7 (w7.heap.size) #[.int .i8 p0, .int .i8 q0] 40 (by simp)
       replace P0 := P0.alloc (.cells #[.int .i8 p0, .int .i8 q0] 40)
       replace O5_0 := O5_0.alloc (.cells #[.int .i8 p0, .int .i8 q0] 40)
       replace O5_1 := O5_1.alloc (.cells #[.int .i8 p0, .int .i8 q0] 40)
       replace R70 := R70.alloc (.cells #[.int .i8 p0, .int .i8 q0] 40)
       replace U0 := U0.alloc (.cells #[.int .i8 p0, .int .i8 q0] 40)
       replace B := al B (.cells #[.int .i8 p0, .int .i8 q0] 40)
       have lt16 : w.heap.size < w7.heap.size + 1 := by have h0 := P0.lt; rw [World.size_alloc] at h0; exact h0
       have lt17 : w3.heap.size < w7.heap.size + 1 := by have h0 := O5_0.lt; rw [World.size_alloc] at h0; exact h0
       have lt18 : (w3.heap.size + 1) < w7.heap.size + 1 := by have h0 := O5_1.lt; rw [World.size_alloc] at h0; exact h0
       have lt19 : g70 < w7.heap.size + 1 := by have h0 := R70.1; rw [World.size_alloc] at h0; exact h0
       have lt20 : w5.heap.size < w7.heap.size + 1 := by have h0 := U0.lt; rw [World.size_alloc] at h0; exact h0
       have lt21 : w7.heap.size < w7.heap.size + 1 := by have h0 := O9_0.lt; rw [World.size_alloc] at h0; exact h0
       have O9_1 := Bx.newAt (w7.alloc (.cells #[.int .i8 p0, .int .i8 q0] 40)) (w7.heap.size + 1) #[.int .i8 p1, .int .i8 q1] 40 (by simp)
       replace P0 := P0.alloc (.cells #[.int .i8 p1, .int .i8 q1] 40)
       replace O5_0 := O5_0.alloc (.cells #[.int .i8 p1, .int .i8 q1] 40)
       replace O5_1 := O5_1.alloc (.cells #[.int .i8 p1, .int .i8 q1] 40)
       replace R70 := R70.alloc (.cells #[.int .i8 p1, .int .i8 q1] 40)
       replace U0 := U0.alloc (.cells #[.int .i8 p1, .int .i8 q1] 40)
       replace O9_0 := O9_0.alloc (.cells #[.int .i8 p1, .int .i8 q1] 40)
       replace B := al B (.cells #[.int .i8 p1, .int .i8 q1] 40)
       obtain ⟨w8, hW⟩ : ∃ W : World, W = ((w7.alloc (.cells #[.int .i8 p0, .int .i8 q0] 40)).alloc (.cells #[.int .i8 p1, .int .i8 q1] 40)) := ⟨_, rfl⟩
       rw [← hW] at P0 O5_0 O5_1 R70 U0 O9_0 O9_1 B ⊢
       clear hW)
    | (refine wpList_load_box O5_0 rfl _ _ rfl rfl _ Try.underlying40 rfl (by kernel_rfl) ?_))
  refine (eqCell_yes p0 q0 _).mono ?_
  rintro e w9 ⟨rfl, hb⟩
  replace P0 := P0.below hb
  replace O5_0 := O5_0.below hb
  replace O5_1 := O5_1.below hb
  replace R70 := R70.below hb
  replace U0 := U0.below hb
  replace O9_0 := O9_0.below hb
  replace O9_1 := O9_1.below hb
  replace B := nxt B hb
  clear hb
  go_wp2_with (first
    | (refine wpList_load_boxG O9_1 (by kernel_rfl) _ _ rfl rfl _ Try.underlying40 rfl (by kernel_rfl) ?_)
    | (refine wpList_load_boxG O5_1 (by kernel_rfl) _ _ rfl rfl _ Try.underlying40 rfl (by kernel_rfl) ?_))
  refine (eqCell_yes p1 q1 _).mono ?_
  rintro e w10 ⟨rfl, hb⟩
  replace P0 := P0.below hb
  replace O5_0 := O5_0.below hb
  replace O5_1 := O5_1.below hb
  replace R70 := R70.below hb
  replace U0 := U0.below hb
  replace O9_0 := O9_0.below hb
  replace O9_1 := O9_1.below hb
  replace B := nxt B hb
  clear hb
  go_wp2_with fail
  refine wp_region_held_drew (S := (fun w' : World => Bx w' w5.heap.size (gV X0 Y0 h0 (.slice (some ⟨g70, 0, none⟩) n0 n0)) 33 ∧ Bx w' w.heap.size (gV X0 Y0 h0 (.slice A0 n0 ca0)) 28)) (by kernel_rfl) ⟨U0, P0⟩ (fun hHeld => ?_)
  replace P0 := P0.drew
  replace O5_0 := O5_0.drew
  replace O5_1 := O5_1.drew
  replace R70 := R70.drew
  replace U0 := U0.drew
  replace O9_0 := O9_0.drew
  replace O9_1 := O9_1.drew
  replace B := B.drew
  obtain ⟨w11, hW⟩ : ∃ W : World, W = w10.drew := ⟨_, rfl⟩
  rw [← hW] at P0 O5_0 O5_1 R70 U0 O9_0 O9_1 B hHeld ⊢
  clear hW
  refine wpAnyH_take (i := 0) (oi := _) (v := .agg (gV X0 Y0 h0 (.slice (some ⟨g70, 0, none⟩) n0 n0))) rfl (by kernel_rfl) (by kernel_rfl) (by kernel_rfl) (fun _ _ _ h => h) (yields_box (by kernel_rfl) _ _ rfl w5.heap.size rfl (gV X0 Y0 h0 (.slice (some ⟨g70, 0, none⟩) n0 n0)) 33 (fun _ hS => hS.1) _ Try.underlying33 rfl (infoGv _ _ _ _)) (by assumption) ?_
  try simp only [List.getElem_toArray, List.getElem_cons_zero, List.getElem_cons_succ, Act.put, List.setIfInBounds_toArray, List.set_cons_zero, List.set_cons_succ]
  refine wpAnyH_take (i := 1) (oi := _) (v := .agg (gV X0 Y0 h0 (.slice A0 n0 ca0))) rfl (by kernel_rfl) (by kernel_rfl) (by kernel_rfl) (fun _ _ _ h => h) (yields_box (by kernel_rfl) _ _ rfl w.heap.size rfl (gV X0 Y0 h0 (.slice A0 n0 ca0)) 28 (fun _ hS => hS.2) _ Try.underlying28 rfl (infoLGv _ _ _ _)) (by assumption) ?_
  try simp only [List.getElem_toArray, List.getElem_cons_zero, List.getElem_cons_succ, Act.put, List.setIfInBounds_toArray, List.set_cons_zero, List.set_cons_succ]
  refine wpAnyH_ready (rs := [2]) (by kernel_rfl) (by simp) ?_
  refine AllReadyH.cons (o := _) rfl (fun K hK => ?_) AllReadyH.nil
  go_simp
  refine (toGround_any X0 Y0 h0 A0 n0 ca0 w.heap.size c0 _ (by omega) B.size (HR0.out.below B)).mono ?_
  rintro e w12 ⟨gc0, rfl, hg, hb, Rc0⟩
  replace P0 := P0.below hb
  replace O5_0 := O5_0.below hb
  replace O5_1 := O5_1.below hb
  replace R70 := R70.below hb
  replace U0 := U0.below hb
  replace O9_0 := O9_0.below hb
  replace O9_1 := O9_1.below hb
  replace B := nxt B hb
  clear hb
  clear hg
  refine hK.out _ _ ⟨U0, P0⟩ (fun hHeld => ?_)
  clear hK K
  try simp only [List.getElem_toArray, List.getElem_cons_zero, List.getElem_cons_succ, Act.put, List.setIfInBounds_toArray, List.set_cons_zero, List.set_cons_succ]
  refine wpAnyH_ready (rs := [3]) (by kernel_rfl) (by simp) ?_
  refine AllReadyH.cons (o := _) rfl (fun K hK => ?_) AllReadyH.nil
  go_simp
  refine (eqGround_yes X0 Y0 h0 (some ⟨g70, 0, none⟩) (some ⟨gc0, 0, none⟩) n0 n0 n0 n0 _ c0 c0 _ (by omega) (by omega) (Nat.le_refl _) R70.rd Rc0.rd ⟨rfl, fun _ _ => rfl⟩).mono ?_
  rintro e w13 ⟨rfl, hb⟩
  replace P0 := P0.below hb
  replace O5_0 := O5_0.below hb
  replace O5_1 := O5_1.below hb
  replace R70 := R70.below hb
  replace U0 := U0.below hb
  replace O9_0 := O9_0.below hb
  replace O9_1 := O9_1.below hb
  replace Rc0 := Rc0.below hb
  replace B := nxt B hb
  clear hb
  refine hK.out _ _ ⟨U0, P0⟩ (fun hHeld => ?_)
  clear hK K
  try simp only [List.getElem_toArray, List.getElem_cons_zero, List.getElem_cons_succ, Act.put, List.setIfInBounds_toArray, List.set_cons_zero, List.set_cons_succ]
  refine wpAnyH_take (i := 4) (oi := _) (v := ?_) rfl (by kernel_rfl) (by kernel_rfl) (by kernel_rfl) (fun _ _ _ h => h) (Or.inl ⟨by kernel_rfl, ?_⟩) (by assumption) ?_
  rotate_left
  · intro w hSw; (try dsimp only at hSw); go_simp; first | done | with_reducible rfl
  try simp only [List.getElem_toArray, List.getElem_cons_zero, List.getElem_cons_succ, Act.put, List.setIfInBounds_toArray, List.set_cons_zero, List.set_cons_succ]
  refine wpAnyH_done (by kernel_rfl) ?_ _
  clear Rc0
  go_wp2_with fail
  go_ret
  exact ⟨rfl, B⟩

theorem big0 (X0 Y0 : Int) (h0 : Nat → Int) (A0 : Option Addr) (n0 ca0 : Nat) (c0 : Nat → Int) (w : World)  (hn : 1048576 < n0) (hm : n0 ≤ 9223372036854775807) :
    Calls Try.prog 10 #[.agg (gV X0 Y0 h0 (.slice A0 n0 ca0))] w fun e w' => e = .returned (.bool true) ∧ Below w.heap.size w w' := by
  have B : Below w.heap.size w w := Below.refl _ _
  go_enter Try.func10, Try.ntmps10
  have P0 := (Bx.new w (gV X0 Y0 h0 (.slice A0 n0 ca0)) 28)
  replace B := (al B (Obj.cells (gV X0 Y0 h0 (.slice A0 n0 ca0)) 28))
  go_wp2_with (refine wpList_load_box P0 rfl _ _ rfl rfl _ Try.underlying28 rfl (infoLGv _ _ _ _) ?_)
  refine (szGround_big X0 Y0 (1048576) h0 A0 n0 ca0 _ (by omega) (by omega) (by omega) hm).mono ?_
  rintro e w14 ⟨rfl, hb⟩
  replace P0 := P0.below hb
  replace B := nxt B hb
  clear hb
  go_wp2_with fail
  go_ret
  exact ⟨rfl, B⟩

theorem walk (X0 Y0 : Int) (h0 : Nat → Int) (A0 : Option Addr) (n0 ca0 : Nat) (c0 : Nat → Int) (w : World) (bX0 : -128 ≤ X0 ∧ X0 ≤ 127) (bY0 : -128 ≤ Y0 ∧ Y0 ≤ 127) (bh0 : ∀ p, -32768 ≤ h0 p ∧ h0 p ≤ 32767) (hm0 : n0 ≤ 9223372036854775807) (hc0 : ∀ j, -128 ≤ c0 j ∧ c0 j ≤ 127)
    (hr0 : RdK .i8 w w.heap.size A0 (2 * n0) c0) :
    Calls Try.prog 10 #[.agg (gV X0 Y0 h0 (.slice A0 n0 ca0))] w fun e w' => e = .returned (.bool true) ∧ Below w.heap.size w w' := by
  by_cases hn0 : 1048576 < n0
  · exact big0 X0 Y0 h0 A0 n0 ca0 c0 w  hn0 hm0
  obtain ⟨p0, q0, p1, q1, z2, z3, hS, hI⟩ := both X0 Y0 h0 n0 c0 bX0 bY0 bh0 hc0 (by omega)
  exact law X0 Y0 h0 A0 n0 ca0 c0 p0 q0 p1 q1 z2 z3 w (by omega) hr0 (fun W G0 _ R0 => hS W G0 R0) (fun W G0 _ R0 => hI W G0 R0)

end Go.Proofs.Ytegnhpanlbfmdaa.steepestFall
