/-
  The walk of the law FnExactLongestCrack. Conditions stand at each.
-/
import Derived.Test.YtmkcdelfgaogaaaDoorRows
import Derived.Test.YtmkcdelfgaogaaaDoorSqN
import Derived.Test.YtmkcdelfgaogaaaDoorLawA
import Derived.Test.YtmkcdelfgaogaaaDoorOpens
import Derived.Test.YtmkcdelfgaogaaaDoorLongAll
import Derived.Deep.RegionHeld3
import Derived.Deep.DeepCutAuto
import Derived.Lib.SmallJoins
namespace Go.Proofs.YtmkcdelfgaogaaaDoor.longestCrack
open Go Go.ChangeShapes Go.WideShapes Go.ChangeAt Go.RowKit
set_option linter.unusedVariables false
set_option linter.unusedSimpArgs false
set_option maxRecDepth 100000
set_option maxHeartbeats 4000000

theorem law (X0 Y0 : Int) (A0 : Option Addr) (n0 ca0 : Nat) (c0 : Nat → Int) (k1 : Int) (p0 q0 : Int) (z1 : Int) (z2 : Int) (z3 : Int) (w : World) (hn0 : n0 ≤ 1048576)
    (hr0 : Rd8 w w.heap.size A0 (4 * n0) c0)
    (hS : ∀ (W : World) (G0 : Nat), Below w.heap.size w W → Ab W G0 n0 c0 → 
      Calls Tryd.prog 28 #[.agg #[.int .i8 X0, .int .i8 Y0, .slice (some ⟨G0, 0, none⟩) n0 n0], .int .i64 k1] W fun e w' => Below W.heap.size W w' ∧ e = .returned (.tuple #[.agg #[.int .i8 p0, .int .i8 q0], .int .i64 z1, .int .i64 z2, .int .i64 z3]))
    (hI : ∀ (W : World) (G0 : Nat), Below w.heap.size w W → Ab W G0 n0 c0 → 
      Calls Tryd.prog 29 #[.agg #[.int .i8 X0, .int .i8 Y0, .slice (some ⟨G0, 0, none⟩) n0 n0], .int .i64 k1] W fun e w' => Below W.heap.size W w' ∧ e = .returned (.tuple #[.agg #[.int .i8 p0, .int .i8 q0], .int .i64 z1, .int .i64 z2, .int .i64 z3])) :
    Calls Tryd.prog 7 #[.agg #[.int .i8 X0, .int .i8 Y0, .slice A0 n0 ca0], .int .i64 k1] w fun e w' => e = .returned (.bool true) ∧ Below w.heap.size w w' := by
  have HS := Lib.hid hS
  have HI := Lib.hid hI
  have HW := Nat.le_refl w.heap.size
  have HR0 := Lib.hid hr0
  have hz0 : 0 ≤ 1048576 - (n0 : Int) := by omega
  have hrr1 : (z1 != z1) = false := by simp
  have hrr2 : (z2 != z2) = false := by simp
  have hrr3 : (z3 != z3) = false := by simp
  have B : Below w.heap.size w w := Below.refl _ _
  clear hS hI HW hr0
  go_enter Tryd.func7, Tryd.ntmps7
  have P0 := (Bx.new w #[.int .i8 X0, .int .i8 Y0, .slice A0 n0 ca0] 25)
  replace B := (al B (Obj.cells #[.int .i8 X0, .int .i8 Y0, .slice A0 n0 ca0] 25))
  go_wp2_with (refine wpList_load_box P0 rfl _ _ rfl rfl _ Tryd.underlying25 rfl (by kernel_rfl) ?_)
  refine (szSquare_ok X0 Y0 (1048576) A0 n0 ca0 _ (by omega) (by omega) (by omega)).mono ?_
  rintro e w1 ⟨rfl, hb⟩
  replace P0 := P0.below hb
  replace B := nxt B hb
  clear hb
  go_wp2_with (refine wpList_load_box P0 rfl _ _ rfl rfl _ Tryd.underlying25 rfl (by kernel_rfl) ?_)
  refine (toSquare_ab X0 Y0 A0 n0 ca0 w.heap.size c0 _ (by omega) B.size (HR0.out.below B)).mono ?_
  rintro e w2 ⟨g50, rfl, hg, hb, R50⟩
  have lt0 : w.heap.size < g50 := Nat.lt_of_lt_of_le P0.lt hg
  have bzg50 : w.heap.size ≤ g50 := Nat.le_trans B.size hg
  replace P0 := P0.below hb
  replace B := nxt B hb
  clear hb
  clear hg
  go_wp2_with fail
  refine (HS.out _ g50 B R50).mono ?_
  rintro e w3 ⟨hb, rfl⟩
  replace P0 := P0.below hb
  replace R50 := R50.below hb
  replace B := nxt B hb
  clear hb
  clear R50
  go_wp2_with (first
    | (refine wpList_load_box ((P0).alloc (.cells #[.int .i8 p0, .int .i8 q0] 35)) rfl _ _ rfl rfl _ Tryd.underlying25 rfl (by kernel_rfl) ?_
       have lt1 : w.heap.size < w3.heap.size := P0.lt
       have O5_0 := Bx.newAt w3 (w3.heap.size) #[.int .i8 p0, .int .i8 q0] 35 (by simp)
       replace P0 := P0.alloc (.cells #[.int .i8 p0, .int .i8 q0] 35)
       replace B := al B (.cells #[.int .i8 p0, .int .i8 q0] 35)
       obtain ⟨w4, hW⟩ : ∃ W : World, W = (w3.alloc (.cells #[.int .i8 p0, .int .i8 q0] 35)) := ⟨_, rfl⟩
       rw [← hW] at P0 O5_0 B ⊢
       clear hW))
  refine (toSquare_ab X0 Y0 A0 n0 ca0 w.heap.size c0 _ (by omega) B.size (HR0.out.below B)).mono ?_
  rintro e w5 ⟨g70, rfl, hg, hb, R70⟩
  have lt2 : w.heap.size < g70 := Nat.lt_of_lt_of_le P0.lt hg
  have lt3 : w3.heap.size < g70 := Nat.lt_of_lt_of_le O5_0.lt hg
  have bzg70 : w.heap.size ≤ g70 := Nat.le_trans B.size hg
  replace P0 := P0.below hb
  replace O5_0 := O5_0.below hb
  replace B := nxt B hb
  clear hb
  clear hg
  go_wp2_with (first
    | (refine wpList_load_box (Bx.newAt w5 (w5.heap.size) #[.int .i8 X0, .int .i8 Y0, .slice (some ⟨g70, 0, none⟩) n0 n0] 33 (by simp)) rfl _ _ rfl rfl _ Tryd.underlying33 rfl (by kernel_rfl) ?_
       have lt4 : w.heap.size < w5.heap.size := P0.lt
       have lt5 : w3.heap.size < w5.heap.size := O5_0.lt
       have lt6 : g70 < w5.heap.size := R70.1
       have U0 := Bx.newAt w5 (w5.heap.size) #[.int .i8 X0, .int .i8 Y0, .slice (some ⟨g70, 0, none⟩) n0 n0] 33 (by simp)
       replace P0 := P0.alloc (.cells #[.int .i8 X0, .int .i8 Y0, .slice (some ⟨g70, 0, none⟩) n0 n0] 33)
       replace O5_0 := O5_0.alloc (.cells #[.int .i8 X0, .int .i8 Y0, .slice (some ⟨g70, 0, none⟩) n0 n0] 33)
       replace R70 := R70.alloc (.cells #[.int .i8 X0, .int .i8 Y0, .slice (some ⟨g70, 0, none⟩) n0 n0] 33)
       replace B := al B (.cells #[.int .i8 X0, .int .i8 Y0, .slice (some ⟨g70, 0, none⟩) n0 n0] 33)
       obtain ⟨w6, hW⟩ : ∃ W : World, W = (w5.alloc (.cells #[.int .i8 X0, .int .i8 Y0, .slice (some ⟨g70, 0, none⟩) n0 n0] 33)) := ⟨_, rfl⟩
       rw [← hW] at P0 O5_0 R70 U0 B ⊢
       clear hW))
  refine (HI.out _ g70 B R70).mono ?_
  rintro e w7 ⟨hb, rfl⟩
  replace P0 := P0.below hb
  replace O5_0 := O5_0.below hb
  replace R70 := R70.below hb
  replace U0 := U0.below hb
  replace B := nxt B hb
  clear hb
  go_wp2_with (first
    | (refine wpList_load_box (Bx.newAt w7 (w7.heap.size) #[.int .i8 p0, .int .i8 q0] 35 (by simp)) rfl _ _ rfl rfl _ Tryd.underlying35 rfl (by kernel_rfl) ?_
       have lt7 : w.heap.size < w7.heap.size := P0.lt
       have lt8 : w3.heap.size < w7.heap.size := O5_0.lt
       have lt9 : g70 < w7.heap.size := R70.1
       have lt10 : w5.heap.size < w7.heap.size := U0.lt
       have O9_0 := Bx.newAt w7 (w7.heap.size) #[.int .i8 p0, .int .i8 q0] 35 (by simp)
       replace P0 := P0.alloc (.cells #[.int .i8 p0, .int .i8 q0] 35)
       replace O5_0 := O5_0.alloc (.cells #[.int .i8 p0, .int .i8 q0] 35)
       replace R70 := R70.alloc (.cells #[.int .i8 p0, .int .i8 q0] 35)
       replace U0 := U0.alloc (.cells #[.int .i8 p0, .int .i8 q0] 35)
       replace B := al B (.cells #[.int .i8 p0, .int .i8 q0] 35)
       obtain ⟨w8, hW⟩ : ∃ W : World, W = (w7.alloc (.cells #[.int .i8 p0, .int .i8 q0] 35)) := ⟨_, rfl⟩
       rw [← hW] at P0 O5_0 R70 U0 O9_0 B ⊢
       clear hW)
    | (refine wpList_load_box O5_0 rfl _ _ rfl rfl _ Tryd.underlying35 rfl (by kernel_rfl) ?_))
  refine (eqCell_yes p0 q0 _).mono ?_
  rintro e w9 ⟨rfl, hb⟩
  replace P0 := P0.below hb
  replace O5_0 := O5_0.below hb
  replace R70 := R70.below hb
  replace U0 := U0.below hb
  replace O9_0 := O9_0.below hb
  replace B := nxt B hb
  clear hb
  go_wp2_with fail
  refine wp_region_held_drew (S := (fun w' : World => Bx w' w5.heap.size #[.int .i8 X0, .int .i8 Y0, .slice (some ⟨g70, 0, none⟩) n0 n0] 33 ∧ Bx w' w.heap.size #[.int .i8 X0, .int .i8 Y0, .slice A0 n0 ca0] 25)) (by kernel_rfl) ⟨U0, P0⟩ (fun hHeld => ?_)
  replace P0 := P0.drew
  replace O5_0 := O5_0.drew
  replace R70 := R70.drew
  replace U0 := U0.drew
  replace O9_0 := O9_0.drew
  replace B := B.drew
  obtain ⟨w10, hW⟩ : ∃ W : World, W = w9.drew := ⟨_, rfl⟩
  rw [← hW] at P0 O5_0 R70 U0 O9_0 B hHeld ⊢
  clear hW
  refine wpAnyH_take (i := 0) (oi := _) (v := .agg #[.int .i8 X0, .int .i8 Y0, .slice (some ⟨g70, 0, none⟩) n0 n0]) rfl (by kernel_rfl) (by kernel_rfl) (by kernel_rfl) (fun _ _ _ h => h) (yields_box (by kernel_rfl) _ _ rfl w5.heap.size rfl #[.int .i8 X0, .int .i8 Y0, .slice (some ⟨g70, 0, none⟩) n0 n0] 33 (fun _ hS => hS.1) _ Tryd.underlying33 rfl (by kernel_rfl)) (by assumption) ?_
  try simp only [List.getElem_toArray, List.getElem_cons_zero, List.getElem_cons_succ, Act.put, List.setIfInBounds_toArray, List.set_cons_zero, List.set_cons_succ]
  refine wpAnyH_take (i := 1) (oi := _) (v := .agg #[.int .i8 X0, .int .i8 Y0, .slice A0 n0 ca0]) rfl (by kernel_rfl) (by kernel_rfl) (by kernel_rfl) (fun _ _ _ h => h) (yields_box (by kernel_rfl) _ _ rfl w.heap.size rfl #[.int .i8 X0, .int .i8 Y0, .slice A0 n0 ca0] 25 (fun _ hS => hS.2) _ Tryd.underlying25 rfl (by kernel_rfl)) (by assumption) ?_
  try simp only [List.getElem_toArray, List.getElem_cons_zero, List.getElem_cons_succ, Act.put, List.setIfInBounds_toArray, List.set_cons_zero, List.set_cons_succ]
  refine wpAnyH_ready (rs := [2]) (by kernel_rfl) (by simp) ?_
  refine AllReadyH.cons (o := _) rfl (fun K hK => ?_) AllReadyH.nil
  go_simp
  refine (toSquare_ab X0 Y0 A0 n0 ca0 w.heap.size c0 _ (by omega) B.size (HR0.out.below B)).mono ?_
  rintro e w11 ⟨gc0, rfl, hg, hb, Rc0⟩
  replace P0 := P0.below hb
  replace O5_0 := O5_0.below hb
  replace R70 := R70.below hb
  replace U0 := U0.below hb
  replace O9_0 := O9_0.below hb
  replace B := nxt B hb
  clear hb
  clear hg
  refine hK.out _ _ ⟨U0, P0⟩ (fun hHeld => ?_)
  clear hK K
  try simp only [List.getElem_toArray, List.getElem_cons_zero, List.getElem_cons_succ, Act.put, List.setIfInBounds_toArray, List.set_cons_zero, List.set_cons_succ]
  refine wpAnyH_ready (rs := [3]) (by kernel_rfl) (by simp) ?_
  refine AllReadyH.cons (o := _) rfl (fun K hK => ?_) AllReadyH.nil
  go_simp
  refine (eqSquare_yes X0 Y0 (some ⟨g70, 0, none⟩) (some ⟨gc0, 0, none⟩) n0 n0 n0 n0 _ c0 c0 _ (by omega) (by omega) (Nat.le_refl _) R70.rd Rc0.rd ⟨rfl, fun _ _ => rfl⟩).mono ?_
  rintro e w12 ⟨rfl, hb⟩
  replace P0 := P0.below hb
  replace O5_0 := O5_0.below hb
  replace R70 := R70.below hb
  replace U0 := U0.below hb
  replace O9_0 := O9_0.below hb
  replace Rc0 := Rc0.below hb
  replace B := nxt B hb
  clear hb
  refine hK.out _ _ ⟨U0, P0⟩ (fun hHeld => ?_)
  clear hK K
  try simp only [List.getElem_toArray, List.getElem_cons_zero, List.getElem_cons_succ, Act.put, List.setIfInBounds_toArray, List.set_cons_zero, List.set_cons_succ]
  refine wpAnyH_take (i := 4) (oi := _) (v := ?_) rfl (by kernel_rfl) (by kernel_rfl) (by kernel_rfl) (fun _ _ _ h => h) (Or.inl ⟨by kernel_rfl, ?_⟩) (by assumption) ?_
  rotate_left
  · intro w hSw; (try dsimp only at hSw); go_simp; first | done | with_reducible rfl
  try simp only [List.getElem_toArray, List.getElem_cons_zero, List.getElem_cons_succ, Act.put, List.setIfInBounds_toArray, List.set_cons_zero, List.set_cons_succ]
  refine wpAnyH_done (by kernel_rfl) ?_ _
  clear Rc0
  go_wp2_with fail
  go_ret
  exact ⟨rfl, B⟩

theorem big0 (X0 Y0 : Int) (A0 : Option Addr) (n0 ca0 : Nat) (c0 : Nat → Int) (k1 : Int) (w : World)  (hn : 1048576 < n0) (hm : n0 ≤ 9223372036854775807) :
    Calls Tryd.prog 7 #[.agg #[.int .i8 X0, .int .i8 Y0, .slice A0 n0 ca0], .int .i64 k1] w fun e w' => e = .returned (.bool true) ∧ Below w.heap.size w w' := by
  have B : Below w.heap.size w w := Below.refl _ _
  go_enter Tryd.func7, Tryd.ntmps7
  have P0 := (Bx.new w #[.int .i8 X0, .int .i8 Y0, .slice A0 n0 ca0] 25)
  replace B := (al B (Obj.cells #[.int .i8 X0, .int .i8 Y0, .slice A0 n0 ca0] 25))
  go_wp2_with (refine wpList_load_box P0 rfl _ _ rfl rfl _ Tryd.underlying25 rfl (by kernel_rfl) ?_)
  refine (szSquare_big X0 Y0 (1048576) A0 n0 ca0 _ (by omega) (by omega) (by omega) hm).mono ?_
  rintro e w13 ⟨rfl, hb⟩
  replace P0 := P0.below hb
  replace B := nxt B hb
  clear hb
  go_wp2_with fail
  go_ret
  exact ⟨rfl, B⟩

theorem walk (X0 Y0 : Int) (A0 : Option Addr) (n0 ca0 : Nat) (c0 : Nat → Int) (k1 : Int) (s0_ s1_ s2_ : Addr) (w : World) (bX0 : -128 ≤ X0 ∧ X0 ≤ 127) (bY0 : -128 ≤ Y0 ∧ Y0 ≤ 127) (hm0 : n0 ≤ 9223372036854775807) (hc0 : ∀ j, -128 ≤ c0 j ∧ c0 j ≤ 127) (bk1 : (Lit.int .i64 k1).wf = true)
    (hr0 : Rd8 w w.heap.size A0 (4 * n0) c0) (hE : Sent w s0_ s1_ s2_) :
    Calls Tryd.prog 7 #[.agg #[.int .i8 X0, .int .i8 Y0, .slice A0 n0 ca0], .int .i64 k1] w fun e w' => e = .returned (.bool true) ∧ Below w.heap.size w w' := by
  by_cases hn0 : 1048576 < n0
  · exact big0 X0 Y0 A0 n0 ca0 c0 k1 w  hn0 hm0
  obtain ⟨p0, q0, z1, z2, z3, hS, hI⟩ := both X0 Y0 n0 c0 k1 s0_ s1_ s2_ w bX0 bY0 hc0 (by omega) bk1 hE
  exact law X0 Y0 A0 n0 ca0 c0 k1 p0 q0 z1 z2 z3 w (by omega)  hr0 hS hI

end Go.Proofs.YtmkcdelfgaogaaaDoor.longestCrack
