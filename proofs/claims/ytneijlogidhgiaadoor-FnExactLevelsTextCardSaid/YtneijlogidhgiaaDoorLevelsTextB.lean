/-
  Both sides of LevelsText answer the same; the walk of the law. Conditions stand at each.
-/
import Derived.Test.YtneijlogidhgiaaDoorRows
import Derived.Test.YtneijlogidhgiaaDoorSqN
import Derived.Test.YtneijlogidhgiaaDoorLevTxt
import Derived.Deep.RegionHeld3
import Derived.Deep.DeepCutAuto
import Derived.Lib.SmallJoins
namespace Go.Proofs.YtneijlogidhgiaaDoor.levelsText
open Go Go.ChangeShapes Go.WideShapes Go.ChangeAt Go.RowKit
set_option linter.unusedVariables false
set_option linter.unusedSimpArgs false
set_option maxRecDepth 100000
set_option maxHeartbeats 4000000

theorem law (X0 Y0 : Int) (A0 : Option Addr) (n0 ca0 : Nat) (c0 : Nat → Int) (A1 : Option Addr) (n1 ca1 : Nat) (c1 : Nat → Int) (z0 : ByteArray) (w : World) (hn0 : n0 ≤ 1048576) (hn1 : n1 ≤ 1048576)
    (hr0 : Rd8 w w.heap.size A0 (4 * n0) c0) (hr1 : RdK .i64 w w.heap.size A1 n1 c1) (hT : TabP w)
    (hS : ∀ (W : World) (G0 G1 : Nat), w.heap.size ≤ W.heap.size → Ab W G0 n0 c0 → Ar W G1 n1 c1 → 
      Calls Tryd.prog 16 #[.agg #[.int .i8 X0, .int .i8 Y0, .slice (some ⟨G0, 0, none⟩) n0 n0], .slice (some ⟨G1, 0, none⟩) n1 n1] W fun e w' => Below W.heap.size W w' ∧ e = .returned (.string z0))
    (hI : ∀ (W : World) (G0 G1 : Nat), TabP W → Ab W G0 n0 c0 → Ar W G1 n1 c1 → 
      Calls Tryd.prog 18 #[.agg #[.int .i8 X0, .int .i8 Y0, .slice (some ⟨G0, 0, none⟩) n0 n0], .slice (some ⟨G1, 0, none⟩) n1 n1] W fun e w' => Below W.heap.size W w' ∧ e = .returned (.string z0)) :
    Calls Tryd.prog 5 #[.agg #[.int .i8 X0, .int .i8 Y0, .slice A0 n0 ca0], .slice A1 n1 ca1] w fun e w' => e = .returned (.bool true) ∧ Below w.heap.size w w' := by
  have HS := Lib.hid hS
  have HI := Lib.hid hI
  have HW := Nat.le_refl w.heap.size
  have HT := Lib.hid hT
  have HR0 := Lib.hid hr0
  have hz0 : 0 ≤ 1048576 - (n0 : Int) := by omega
  have HR1 := Lib.hid hr1
  have hz1 : 0 ≤ 1048576 - (n1 : Int) := by omega
  have B : Below w.heap.size w w := Below.refl _ _
  clear hS hI HW hr0 hr1 hT
  go_enter Tryd.func5, Tryd.ntmps5
  have P0 := (Bx.new w #[.int .i8 X0, .int .i8 Y0, .slice A0 n0 ca0] 37)
  replace B := (al B (Obj.cells #[.int .i8 X0, .int .i8 Y0, .slice A0 n0 ca0] 37))
  go_wp2_with (refine wpList_load_box P0 rfl _ _ rfl rfl _ Tryd.underlying37 rfl (by kernel_rfl) ?_)
  refine (szSquare_ok X0 Y0 (1048576) A0 n0 ca0 _ (by omega) (by omega) (by omega)).mono ?_
  rintro e w1 ⟨rfl, hb⟩
  replace P0 := P0.below hb
  replace B := nxt B hb
  clear hb
  go_wp2_with (refine wpList_load_box P0 rfl _ _ rfl rfl _ Tryd.underlying37 rfl (by kernel_rfl) ?_)
  refine (toSquare_ab X0 Y0 A0 n0 ca0 w.heap.size c0 _ (by omega) B.size (HR0.out.below B)).mono ?_
  rintro e w2 ⟨g50, rfl, hg, hb, R50⟩
  have lt0 : w.heap.size < g50 := Nat.lt_of_lt_of_le P0.lt hg
  have bzg50 : w.heap.size ≤ g50 := Nat.le_trans B.size hg
  replace P0 := P0.below hb
  replace B := nxt B hb
  clear hb
  clear hg
  go_wp2_with fail
  refine (toInt64S_any A1 n1 ca1 w.heap.size c1 _ (by omega) B.size (HR1.out.below B)).mono ?_
  rintro e w3 ⟨g51, rfl, hg, hb, R51⟩
  have lt1 : w.heap.size < g51 := Nat.lt_of_lt_of_le P0.lt hg
  have lt2 : g50 < g51 := Nat.lt_of_lt_of_le R50.1 hg
  have bzg51 : w.heap.size ≤ g51 := Nat.le_trans B.size hg
  replace P0 := P0.below hb
  replace R50 := R50.below hb
  replace B := nxt B hb
  clear hb
  clear hg
  go_wp2_with fail
  refine (HS.out _ g50 g51 B.size R50 R51).mono ?_
  rintro e w4 ⟨hb, rfl⟩
  replace P0 := P0.below hb
  replace R50 := R50.below hb
  replace R51 := R51.below hb
  replace B := nxt B hb
  clear hb
  clear R50
  clear R51
  go_wp2_with (refine wpList_load_box P0 rfl _ _ rfl rfl _ Tryd.underlying37 rfl (by kernel_rfl) ?_)
  refine (toSquare_ab X0 Y0 A0 n0 ca0 w.heap.size c0 _ (by omega) B.size (HR0.out.below B)).mono ?_
  rintro e w5 ⟨g70, rfl, hg, hb, R70⟩
  have lt3 : w.heap.size < g70 := Nat.lt_of_lt_of_le P0.lt hg
  have bzg70 : w.heap.size ≤ g70 := Nat.le_trans B.size hg
  replace P0 := P0.below hb
  replace B := nxt B hb
  clear hb
  clear hg
  go_wp2_with fail
  have lt4 : w.heap.size < w5.heap.size := P0.lt
  have lt5 : g70 < w5.heap.size := R70.1
  have U0 := Bx.newAt w5 (w5.heap.size) #[.int .i8 X0, .int .i8 Y0, .slice (some ⟨g70, 0, none⟩) n0 n0] 42 (by simp)
  replace P0 := P0.alloc (.cells #[.int .i8 X0, .int .i8 Y0, .slice (some ⟨g70, 0, none⟩) n0 n0] 42)
  replace R70 := R70.alloc (.cells #[.int .i8 X0, .int .i8 Y0, .slice (some ⟨g70, 0, none⟩) n0 n0] 42)
  replace B := al B (.cells #[.int .i8 X0, .int .i8 Y0, .slice (some ⟨g70, 0, none⟩) n0 n0] 42)
  obtain ⟨w6, hW⟩ : ∃ W : World, W = (w5.alloc (.cells #[.int .i8 X0, .int .i8 Y0, .slice (some ⟨g70, 0, none⟩) n0 n0] 42)) := ⟨_, rfl⟩
  rw [← hW] at P0 R70 U0 B ⊢
  clear hW
  refine (toInt64S_any A1 n1 ca1 w.heap.size c1 _ (by omega) B.size (HR1.out.below B)).mono ?_
  rintro e w7 ⟨g71, rfl, hg, hb, R71⟩
  have lt6 : w.heap.size < g71 := Nat.lt_of_lt_of_le P0.lt hg
  have lt7 : g70 < g71 := Nat.lt_of_lt_of_le R70.1 hg
  have lt8 : w5.heap.size < g71 := Nat.lt_of_lt_of_le U0.lt hg
  have bzg71 : w.heap.size ≤ g71 := Nat.le_trans B.size hg
  replace P0 := P0.below hb
  replace R70 := R70.below hb
  replace U0 := U0.below hb
  replace B := nxt B hb
  clear hb
  clear hg
  go_wp2_with (refine wpList_load_box U0 rfl _ _ rfl rfl _ Tryd.underlying42 rfl (by kernel_rfl) ?_)
  refine (HI.out _ g70 g71 (HT.out.below B) R70 R71).mono ?_
  rintro e w8 ⟨hb, rfl⟩
  replace P0 := P0.below hb
  replace R70 := R70.below hb
  replace U0 := U0.below hb
  replace R71 := R71.below hb
  replace B := nxt B hb
  clear hb
  go_wp2_with fail
  refine wp_region_held_drew (S := (fun w' : World => Bx w' w5.heap.size #[.int .i8 X0, .int .i8 Y0, .slice (some ⟨g70, 0, none⟩) n0 n0] 42 ∧ Bx w' w.heap.size #[.int .i8 X0, .int .i8 Y0, .slice A0 n0 ca0] 37)) (by kernel_rfl) ⟨U0, P0⟩ (fun hHeld => ?_)
  replace P0 := P0.drew
  replace R70 := R70.drew
  replace U0 := U0.drew
  replace R71 := R71.drew
  replace B := B.drew
  obtain ⟨w9, hW⟩ : ∃ W : World, W = w8.drew := ⟨_, rfl⟩
  rw [← hW] at P0 R70 U0 R71 B hHeld ⊢
  clear hW
  refine wpAnyH_take (i := 0) (oi := _) (v := .agg #[.int .i8 X0, .int .i8 Y0, .slice (some ⟨g70, 0, none⟩) n0 n0]) rfl (by kernel_rfl) (by kernel_rfl) (by kernel_rfl) (fun _ _ _ h => h) (yields_box (by kernel_rfl) _ _ rfl w5.heap.size rfl #[.int .i8 X0, .int .i8 Y0, .slice (some ⟨g70, 0, none⟩) n0 n0] 42 (fun _ hS => hS.1) _ Tryd.underlying42 rfl (by kernel_rfl)) (by assumption) ?_
  try simp only [List.getElem_toArray, List.getElem_cons_zero, List.getElem_cons_succ, Act.put, List.setIfInBounds_toArray, List.set_cons_zero, List.set_cons_succ]
  refine wpAnyH_take (i := 1) (oi := _) (v := .agg #[.int .i8 X0, .int .i8 Y0, .slice A0 n0 ca0]) rfl (by kernel_rfl) (by kernel_rfl) (by kernel_rfl) (fun _ _ _ h => h) (yields_box (by kernel_rfl) _ _ rfl w.heap.size rfl #[.int .i8 X0, .int .i8 Y0, .slice A0 n0 ca0] 37 (fun _ hS => hS.2) _ Tryd.underlying37 rfl (by kernel_rfl)) (by assumption) ?_
  try simp only [List.getElem_toArray, List.getElem_cons_zero, List.getElem_cons_succ, Act.put, List.setIfInBounds_toArray, List.set_cons_zero, List.set_cons_succ]
  refine wpAnyH_ready (rs := [2]) (by kernel_rfl) (by simp) ?_
  refine AllReadyH.cons (o := _) rfl (fun K hK => ?_) AllReadyH.nil
  go_simp
  refine (toSquare_ab X0 Y0 A0 n0 ca0 w.heap.size c0 _ (by omega) B.size (HR0.out.below B)).mono ?_
  rintro e w10 ⟨gc0, rfl, hg, hb, Rc0⟩
  replace P0 := P0.below hb
  replace R70 := R70.below hb
  replace U0 := U0.below hb
  replace R71 := R71.below hb
  replace B := nxt B hb
  clear hb
  clear hg
  refine hK.out _ _ ⟨U0, P0⟩ (fun hHeld => ?_)
  clear hK K
  try simp only [List.getElem_toArray, List.getElem_cons_zero, List.getElem_cons_succ, Act.put, List.setIfInBounds_toArray, List.set_cons_zero, List.set_cons_succ]
  refine wpAnyH_ready (rs := [3]) (by kernel_rfl) (by simp) ?_
  refine AllReadyH.cons (o := _) rfl (fun K hK => ?_) AllReadyH.nil
  go_simp
  refine (eqSquare_yes X0 Y0 (some ⟨g70, 0, none⟩) (some ⟨gc0, 0, none⟩) n0 n0 n0 n0 _ c0 c0 _ (by omega) (by omega) (Nat.le_refl _) R70.rd Rc0.rd ⟨rfl, fun _ _ => rfl⟩).mono ?_
  rintro e w11 ⟨rfl, hb⟩
  replace P0 := P0.below hb
  replace R70 := R70.below hb
  replace U0 := U0.below hb
  replace R71 := R71.below hb
  replace Rc0 := Rc0.below hb
  replace B := nxt B hb
  clear hb
  refine hK.out _ _ ⟨U0, P0⟩ (fun hHeld => ?_)
  clear hK K
  try simp only [List.getElem_toArray, List.getElem_cons_zero, List.getElem_cons_succ, Act.put, List.setIfInBounds_toArray, List.set_cons_zero, List.set_cons_succ]
  refine wpAnyH_take (i := 4) (oi := _) (v := ?_) rfl (by kernel_rfl) (by kernel_rfl) (by kernel_rfl) (fun _ _ _ h => h) (Or.inl ⟨by kernel_rfl, ?_⟩) (by assumption) ?_
  rotate_left
  · intro w hSw; (try dsimp only at hSw); go_simp; first | done | with_reducible rfl
  try simp only [List.getElem_toArray, List.getElem_cons_zero, List.getElem_cons_succ, Act.put, List.setIfInBounds_toArray, List.set_cons_zero, List.set_cons_succ]
  refine wpAnyH_done (by kernel_rfl) ?_ _
  clear Rc0
  go_wp2_with fail
  refine (toInt64S_any A1 n1 ca1 w.heap.size c1 _ (by omega) B.size (HR1.out.below B)).mono ?_
  rintro e w12 ⟨gc1, rfl, hg, hb, Rc1⟩
  have lt9 : w.heap.size < gc1 := Nat.lt_of_lt_of_le P0.lt hg
  have lt10 : g70 < gc1 := Nat.lt_of_lt_of_le R70.1 hg
  have lt11 : w5.heap.size < gc1 := Nat.lt_of_lt_of_le U0.lt hg
  have lt12 : g71 < gc1 := Nat.lt_of_lt_of_le R71.1 hg
  have bzgc1 : w.heap.size ≤ gc1 := Nat.le_trans B.size hg
  replace P0 := P0.below hb
  replace R70 := R70.below hb
  replace U0 := U0.below hb
  replace R71 := R71.below hb
  replace B := nxt B hb
  clear hb
  clear hg
  go_wp2_with fail
  refine (eqInt64S_any (some ⟨g71, 0, none⟩) (some ⟨gc1, 0, none⟩) n1 n1 n1 n1 _ c1 c1 _ (by omega) (by omega) (Nat.le_refl _) R71.rd Rc1.rd ⟨rfl, fun _ _ => rfl⟩).mono ?_
  rintro e w13 ⟨rfl, hb⟩
  replace P0 := P0.below hb
  replace R70 := R70.below hb
  replace U0 := U0.below hb
  replace R71 := R71.below hb
  replace Rc1 := Rc1.below hb
  replace B := nxt B hb
  clear hb
  clear Rc1
  go_wp2_with fail
  go_ret
  exact ⟨rfl, B⟩

theorem big1 (X0 Y0 : Int) (A0 : Option Addr) (n0 ca0 : Nat) (c0 : Nat → Int) (A1 : Option Addr) (n1 ca1 : Nat) (c1 : Nat → Int) (w : World)  (hn : 1048576 < n1) (hm : n1 ≤ 9223372036854775807) :
    Calls Tryd.prog 5 #[.agg #[.int .i8 X0, .int .i8 Y0, .slice A0 n0 ca0], .slice A1 n1 ca1] w fun e w' => e = .returned (.bool true) ∧ Below w.heap.size w w' := by
  have B : Below w.heap.size w w := Below.refl _ _
  go_enter Tryd.func5, Tryd.ntmps5
  have P0 := (Bx.new w #[.int .i8 X0, .int .i8 Y0, .slice A0 n0 ca0] 37)
  replace B := (al B (Obj.cells #[.int .i8 X0, .int .i8 Y0, .slice A0 n0 ca0] 37))
  go_wp2_with fail
  go_ret
  exact ⟨rfl, B⟩

theorem big0 (X0 Y0 : Int) (A0 : Option Addr) (n0 ca0 : Nat) (c0 : Nat → Int) (A1 : Option Addr) (n1 ca1 : Nat) (c1 : Nat → Int) (w : World) (hn1 : n1 ≤ 1048576) (hn : 1048576 < n0) (hm : n0 ≤ 9223372036854775807) :
    Calls Tryd.prog 5 #[.agg #[.int .i8 X0, .int .i8 Y0, .slice A0 n0 ca0], .slice A1 n1 ca1] w fun e w' => e = .returned (.bool true) ∧ Below w.heap.size w w' := by
  have B : Below w.heap.size w w := Below.refl _ _
  go_enter Tryd.func5, Tryd.ntmps5
  have P0 := (Bx.new w #[.int .i8 X0, .int .i8 Y0, .slice A0 n0 ca0] 37)
  replace B := (al B (Obj.cells #[.int .i8 X0, .int .i8 Y0, .slice A0 n0 ca0] 37))
  go_wp2_with (refine wpList_load_box P0 rfl _ _ rfl rfl _ Tryd.underlying37 rfl (by kernel_rfl) ?_)
  refine (szSquare_big X0 Y0 (1048576) A0 n0 ca0 _ (by omega) (by omega) (by omega) hm).mono ?_
  rintro e w14 ⟨rfl, hb⟩
  replace P0 := P0.below hb
  replace B := nxt B hb
  clear hb
  go_wp2_with fail
  go_ret
  exact ⟨rfl, B⟩

theorem key (X Y : Int) (n : Nat) (c : Nat → Int) (m : Nat) (d : Nat → Int) : ∃ s : ByteArray, ∀ w e w', LevPost X Y n c m d w e w' → Below w.heap.size w w' ∧ e = .returned (.string s) := by
  by_cases h : NumsOk X Y n c m d (-100) 100
  · refine ⟨bS (nL d m), ?_⟩
    rintro w e w' ⟨hb, ⟨-, rfl⟩ | ⟨h', -⟩⟩
    · exact ⟨hb, rfl⟩
    · exact absurd h h'
  · refine ⟨bS [], ?_⟩
    rintro w e w' ⟨hb, ⟨h', -⟩ | ⟨-, rfl⟩⟩
    · exact absurd h' h
    · exact ⟨hb, rfl⟩

theorem walk0 (X0 Y0 : Int) (A0 : Option Addr) (n0 ca0 : Nat) (c0 : Nat → Int) (A1 : Option Addr) (n1 ca1 : Nat) (c1 : Nat → Int) (w : World) (bX0 : -128 ≤ X0 ∧ X0 ≤ 127) (bY0 : -128 ≤ Y0 ∧ Y0 ≤ 127) (hm0 : n0 ≤ 9223372036854775807) (hc0 : ∀ j, -128 ≤ c0 j ∧ c0 j ≤ 127) (hm1 : n1 ≤ 9223372036854775807) (hc1 : ∀ j, (Lit.int .i64 (c1 j)).wf = true)
    (hr0 : Rd8 w w.heap.size A0 (4 * n0) c0) (hr1 : RdK .i64 w w.heap.size A1 n1 c1) (hT : TabP w) :
    Calls Tryd.prog 5 #[.agg #[.int .i8 X0, .int .i8 Y0, .slice A0 n0 ca0], .slice A1 n1 ca1] w fun e w' => e = .returned (.bool true) ∧ Below w.heap.size w w' := by
  by_cases hn1 : 1048576 < n1
  · exact big1 X0 Y0 A0 n0 ca0 c0 A1 n1 ca1 c1 w  hn1 hm1
  by_cases hn0 : 1048576 < n0
  · exact big0 X0 Y0 A0 n0 ca0 c0 A1 n1 ca1 c1 w (by omega) hn0 hm0
  obtain ⟨s, h⟩ := key X0 Y0 n0 c0 n1 c1
  exact law X0 Y0 A0 n0 ca0 c0 A1 n1 ca1 c1 s w (by omega) (by omega) hr0 hr1 hT (fun W G0 G1 _ R0 R1 => (specLevTxt_any X0 Y0 G0 n0 c0 _ n1 n1 c1 W bX0 bY0 hc0 (by omega) (by omega) R0.row R1.rd).mono (h W)) (fun W G0 G1 hT R0 R1 => (implLevTxt_any X0 Y0 G0 n0 c0 _ n1 n1 c1 W bX0 bY0 hc0 (by omega) (by omega) R0.row R1.rd hT).mono (h W))

theorem walk (X0 Y0 : Int) (A0 : Option Addr) (n0 ca0 : Nat) (c0 : Nat → Int) (A1 : Option Addr) (n1 ca1 : Nat) (c1 : Nat → Int) (w : World) (bX0 : -128 ≤ X0 ∧ X0 ≤ 127) (bY0 : -128 ≤ Y0 ∧ Y0 ≤ 127) (hm0 : n0 ≤ 9223372036854775807) (hr0 : Rd8 w w.heap.size A0 (4 * n0) c0) (hc0 : ∀ j, -128 ≤ c0 j ∧ c0 j ≤ 127)
    (hm1 : n1 ≤ 9223372036854775807) (hr1 : RdK .i64 w w.heap.size A1 n1 c1) (hc1 : ∀ j, (Lit.int .i64 (c1 j)).wf = true) (hT : TabP w) :
    Calls Tryd.prog 5 #[.agg #[.int .i8 X0, .int .i8 Y0, .slice A0 n0 ca0], .slice A1 n1 ca1] w fun e w' => e = .returned (.bool true) ∧ Below w.heap.size w w' :=
  walk0 X0 Y0 A0 n0 ca0 c0 A1 n1 ca1 c1 w bX0 bY0 hm0 hc0 hm1 hc1 hr0 hr1 hT
end Go.Proofs.YtneijlogidhgiaaDoor.levelsText
