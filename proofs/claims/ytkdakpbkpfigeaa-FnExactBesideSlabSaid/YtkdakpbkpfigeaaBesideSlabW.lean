/-
  The walk of the law FnExactBesideSlab. Conditions stand at each.
-/
import Derived.Test.YtkdakpbkpfigeaaRows
import Derived.Test.YtkdakpbkpfigeaaSqN
import Derived.Test.YtkdakpbkpfigeaaBesideSlabB
import Derived.Deep.RegionHeld3
import Derived.Deep.DeepCutAuto
import Derived.Lib.SmallJoins
namespace Go.Proofs.Ytkdakpbkpfigeaa.besideSlab
open Go Go.ChangeShapes Go.WideShapes Go.ChangeAt Go.RowKit
set_option linter.unusedVariables false
set_option linter.unusedSimpArgs false
set_option maxRecDepth 100000
set_option maxHeartbeats 4000000

theorem law (X0 Y0 : Int) (A0 : Option Addr) (n0 ca0 : Nat) (c0 : Nat → Int) (k1 : Int) (z1 : Int) (nn : Nat) (ff : Nat → Int) (w : World) (hn0 : n0 ≤ 1048576) (hnn : nn ≤ 1000)
    (hr0 : Rd8 w w.heap.size A0 (4 * n0) c0)
    (hS : ∀ (W : World) (G0 : Nat), w.heap.size ≤ W.heap.size → Ab W G0 n0 c0 → 
      Calls Try.prog 31 #[.agg #[.int .i8 X0, .int .i8 Y0, .slice (some ⟨G0, 0, none⟩) n0 n0], .int .i64 k1] W fun e w' => Below W.heap.size W w' ∧ ∃ v, e = .returned (.tuple #[v, .int .i64 z1]) ∧ HasSlice .i64 1 w' W.heap.size v nn ff)
    (hI : ∀ (W : World) (G0 : Nat), w.heap.size ≤ W.heap.size → Ab W G0 n0 c0 → 
      Calls Try.prog 32 #[.agg #[.int .i8 X0, .int .i8 Y0, .slice (some ⟨G0, 0, none⟩) n0 n0], .int .i64 k1] W fun e w' => Below W.heap.size W w' ∧ ∃ v, e = .returned (.tuple #[v, .int .i64 z1]) ∧ HasSlice .i64 1 w' W.heap.size v nn ff) :
    Calls Try.prog 7 #[.agg #[.int .i8 X0, .int .i8 Y0, .slice A0 n0 ca0], .int .i64 k1] w fun e w' => e = .returned (.bool true) ∧ Below w.heap.size w w' := by
  have HS := Lib.hid hS
  have HI := Lib.hid hI
  have HW := Nat.le_refl w.heap.size
  have HR0 := Lib.hid hr0
  have hz0 : 0 ≤ 1048576 - (n0 : Int) := by omega
  have hrr1 : (z1 != z1) = false := by simp
  have B : Below w.heap.size w w := Below.refl _ _
  clear hS hI HW hr0
  go_enter Try.func7, Try.ntmps7
  have P0 := (Bx.new w #[.int .i8 X0, .int .i8 Y0, .slice A0 n0 ca0] 25)
  replace B := (al B (Obj.cells #[.int .i8 X0, .int .i8 Y0, .slice A0 n0 ca0] 25))
  go_wp2_with (refine wpList_load_box P0 rfl _ _ rfl rfl _ Try.underlying25 rfl (by kernel_rfl) ?_)
  refine (szSquare_ok X0 Y0 (1048576) A0 n0 ca0 _ (by omega) (by omega) (by omega)).mono ?_
  rintro e w1 ⟨rfl, hb⟩
  replace P0 := P0.below hb
  replace B := nxt B hb
  clear hb
  go_wp2_with (refine wpList_load_box P0 rfl _ _ rfl rfl _ Try.underlying25 rfl (by kernel_rfl) ?_)
  refine (toSquare_ab X0 Y0 A0 n0 ca0 w.heap.size c0 _ (by omega) B.size (HR0.out.below B)).mono ?_
  rintro e w2 ⟨g50, rfl, hg, hb, R50⟩
  have lt0 : w.heap.size < g50 := Nat.lt_of_lt_of_le P0.lt hg
  have bzg50 : w.heap.size ≤ g50 := Nat.le_trans B.size hg
  replace P0 := P0.below hb
  replace B := nxt B hb
  clear hb
  clear hg
  go_wp2_with fail
  refine (HS.out _ g50 B.size R50).mono ?_
  rintro e w3 ⟨hb, v5, rfl, A5, g5, cap5, S5⟩
  obtain rfl := S5.1
  have lt1 : 0 < nn → w.heap.size < g5 := fun h2 => Nat.lt_of_lt_of_le P0.lt (S5.2.1 h2).2.1
  have lt2 : 0 < nn → g50 < g5 := fun h2 => Nat.lt_of_lt_of_le R50.1 (S5.2.1 h2).2.1
  have bzg5 : 0 < nn → w.heap.size ≤ g5 := fun h => Nat.le_trans B.size (S5.2.1 h).2.1
  replace P0 := P0.below hb
  replace R50 := R50.below hb
  replace B := nxt B hb
  clear hb
  clear R50
  go_wp2_with (refine wpList_load_box P0 rfl _ _ rfl rfl _ Try.underlying25 rfl (by kernel_rfl) ?_)
  refine (toSquare_ab X0 Y0 A0 n0 ca0 w.heap.size c0 _ (by omega) B.size (HR0.out.below B)).mono ?_
  rintro e w4 ⟨g70, rfl, hg, hb, R70⟩
  have lt3 : w.heap.size < g70 := Nat.lt_of_lt_of_le P0.lt hg
  have lt4 : 0 < nn → g5 < g70 := fun h => Nat.lt_of_lt_of_le (S5.2.1 h).2.2 hg
  have bzg70 : w.heap.size ≤ g70 := Nat.le_trans B.size hg
  replace P0 := P0.below hb
  replace S5 := S5.below hb
  replace B := nxt B hb
  clear hb
  clear hg
  go_wp2_with (first
    | (refine wpList_load_box (Bx.newAt w4 (w4.heap.size) #[.int .i8 X0, .int .i8 Y0, .slice (some ⟨g70, 0, none⟩) n0 n0] 31 (by simp)) rfl _ _ rfl rfl _ Try.underlying31 rfl (by kernel_rfl) ?_
       have lt5 : w.heap.size < w4.heap.size := P0.lt
       have lt6 : 0 < nn → g5 < w4.heap.size := fun h => (S5.2.1 h).2.2
       have lt7 : g70 < w4.heap.size := R70.1
       have U0 := Bx.newAt w4 (w4.heap.size) #[.int .i8 X0, .int .i8 Y0, .slice (some ⟨g70, 0, none⟩) n0 n0] 31 (by simp)
       replace P0 := P0.alloc (.cells #[.int .i8 X0, .int .i8 Y0, .slice (some ⟨g70, 0, none⟩) n0 n0] 31)
       replace S5 := S5.alloc (.cells #[.int .i8 X0, .int .i8 Y0, .slice (some ⟨g70, 0, none⟩) n0 n0] 31)
       replace R70 := R70.alloc (.cells #[.int .i8 X0, .int .i8 Y0, .slice (some ⟨g70, 0, none⟩) n0 n0] 31)
       replace B := al B (.cells #[.int .i8 X0, .int .i8 Y0, .slice (some ⟨g70, 0, none⟩) n0 n0] 31)
       obtain ⟨w5, hW⟩ : ∃ W : World, W = (w4.alloc (.cells #[.int .i8 X0, .int .i8 Y0, .slice (some ⟨g70, 0, none⟩) n0 n0] 31)) := ⟨_, rfl⟩
       rw [← hW] at P0 S5 R70 U0 B ⊢
       clear hW))
  refine (HI.out _ g70 B.size R70).mono ?_
  rintro e w6 ⟨hb, v9, rfl, A9, g9, cap9, S9⟩
  obtain rfl := S9.1
  have lt8 : 0 < nn → w.heap.size < g9 := fun h2 => Nat.lt_of_lt_of_le P0.lt (S9.2.1 h2).2.1
  have lt9 : 0 < nn → 0 < nn → g5 < g9 := fun h h2 => Nat.lt_of_lt_of_le (S5.2.1 h).2.2 (S9.2.1 h2).2.1
  have lt10 : 0 < nn → g70 < g9 := fun h2 => Nat.lt_of_lt_of_le R70.1 (S9.2.1 h2).2.1
  have lt11 : 0 < nn → w4.heap.size < g9 := fun h2 => Nat.lt_of_lt_of_le U0.lt (S9.2.1 h2).2.1
  have bzg9 : 0 < nn → w.heap.size ≤ g9 := fun h => Nat.le_trans B.size (S9.2.1 h).2.1
  replace P0 := P0.below hb
  replace S5 := S5.below hb
  replace R70 := R70.below hb
  replace U0 := U0.below hb
  replace B := nxt B hb
  clear hb
  go_wp2_with fail
  refine (eqInt64S_any A9 A5 nn nn cap9 cap5 _ ff ff _ (by omega) (by omega) (Nat.le_refl _) (S9.rdN) (S5.rdN) ⟨rfl, fun _ _ => rfl⟩).mono ?_
  rintro e w7 ⟨rfl, hb⟩
  replace P0 := P0.below hb
  replace S5 := S5.below hb
  replace R70 := R70.below hb
  replace U0 := U0.below hb
  replace S9 := S9.below hb
  replace B := nxt B hb
  clear hb
  go_wp2_with fail
  refine wp_region_held_drew (S := (fun w' : World => Bx w' w4.heap.size #[.int .i8 X0, .int .i8 Y0, .slice (some ⟨g70, 0, none⟩) n0 n0] 31 ∧ Bx w' w.heap.size #[.int .i8 X0, .int .i8 Y0, .slice A0 n0 ca0] 25)) (by kernel_rfl) ⟨U0, P0⟩ (fun hHeld => ?_)
  replace P0 := P0.drew
  replace S5 := S5.drew
  replace R70 := R70.drew
  replace U0 := U0.drew
  replace S9 := S9.drew
  replace B := B.drew
  obtain ⟨w8, hW⟩ : ∃ W : World, W = w7.drew := ⟨_, rfl⟩
  rw [← hW] at P0 S5 R70 U0 S9 B hHeld ⊢
  clear hW
  refine wpAnyH_take (i := 0) (oi := _) (v := .agg #[.int .i8 X0, .int .i8 Y0, .slice (some ⟨g70, 0, none⟩) n0 n0]) rfl (by kernel_rfl) (by kernel_rfl) (by kernel_rfl) (fun _ _ _ h => h) (yields_box (by kernel_rfl) _ _ rfl w4.heap.size rfl #[.int .i8 X0, .int .i8 Y0, .slice (some ⟨g70, 0, none⟩) n0 n0] 31 (fun _ hS => hS.1) _ Try.underlying31 rfl (by kernel_rfl)) (by assumption) ?_
  try simp only [List.getElem_toArray, List.getElem_cons_zero, List.getElem_cons_succ, Act.put, List.setIfInBounds_toArray, List.set_cons_zero, List.set_cons_succ]
  refine wpAnyH_take (i := 1) (oi := _) (v := .agg #[.int .i8 X0, .int .i8 Y0, .slice A0 n0 ca0]) rfl (by kernel_rfl) (by kernel_rfl) (by kernel_rfl) (fun _ _ _ h => h) (yields_box (by kernel_rfl) _ _ rfl w.heap.size rfl #[.int .i8 X0, .int .i8 Y0, .slice A0 n0 ca0] 25 (fun _ hS => hS.2) _ Try.underlying25 rfl (by kernel_rfl)) (by assumption) ?_
  try simp only [List.getElem_toArray, List.getElem_cons_zero, List.getElem_cons_succ, Act.put, List.setIfInBounds_toArray, List.set_cons_zero, List.set_cons_succ]
  refine wpAnyH_ready (rs := [2]) (by kernel_rfl) (by simp) ?_
  refine AllReadyH.cons (o := _) rfl (fun K hK => ?_) AllReadyH.nil
  go_simp
  refine (toSquare_ab X0 Y0 A0 n0 ca0 w.heap.size c0 _ (by omega) B.size (HR0.out.below B)).mono ?_
  rintro e w9 ⟨gc0, rfl, hg, hb, Rc0⟩
  replace P0 := P0.below hb
  replace S5 := S5.below hb
  replace R70 := R70.below hb
  replace U0 := U0.below hb
  replace S9 := S9.below hb
  replace B := nxt B hb
  clear hb
  clear hg
  refine hK.out _ _ ⟨U0, P0⟩ (fun hHeld => ?_)
  clear hK K
  try simp only [List.getElem_toArray, List.getElem_cons_zero, List.getElem_cons_succ, Act.put, List.setIfInBounds_toArray, List.set_cons_zero, List.set_cons_succ]
  refine wpAnyH_ready (rs := [3]) (by kernel_rfl) (by simp) ?_
  refine AllReadyH.cons (o := _) rfl (fun K hK => ?_) AllReadyH.nil
  go_simp
  refine (eqSquare_yes X0 Y0 (some ⟨g70, 0, none⟩) (some ⟨gc0, 0, none⟩) n0 n0 n0 n0 _ c0 c0 _ (by omega) (by omega) (Nat.le_refl _) R70.rd Rc0.rd ⟨rfl, fun _ _ => rfl⟩).mono ?_
  rintro e w10 ⟨rfl, hb⟩
  replace P0 := P0.below hb
  replace S5 := S5.below hb
  replace R70 := R70.below hb
  replace U0 := U0.below hb
  replace S9 := S9.below hb
  replace Rc0 := Rc0.below hb
  replace B := nxt B hb
  clear hb
  refine hK.out _ _ ⟨U0, P0⟩ (fun hHeld => ?_)
  clear hK K
  try simp only [List.getElem_toArray, List.getElem_cons_zero, List.getElem_cons_succ, Act.put, List.setIfInBounds_toArray, List.set_cons_zero, List.set_cons_succ]
  refine wpAnyH_take (i := 4) (oi := _) (v := ?_) rfl (by kernel_rfl) (by kernel_rfl) (by kernel_rfl) (fun _ _ _ h => h) (Or.inl ⟨by kernel_rfl, ?_⟩) (by assumption) ?_
  rotate_left
  · intro w hSw; (try dsimp only at hSw); go_simp; first | done | with_reducible rfl
  try simp only [List.getElem_toArray, List.getElem_cons_zero, List.getElem_cons_succ, Act.put, List.setIfInBounds_toArray, List.set_cons_zero, List.set_cons_succ]
  refine wpAnyH_done (by kernel_rfl) ?_ _
  clear Rc0
  go_wp2_with (refine wpList_load_box U0 rfl _ _ rfl rfl _ Try.underlying31 rfl (by kernel_rfl) ?_)
  refine (markSquare_ab X0 Y0 (some ⟨g70, 0, none⟩) g70 0 n0 n0 c0 (1) _ (by omega) (by omega) (by omega) (fun _ => rfl) (fun _ => R70.1) R70.2).mono ?_
  rintro e w11 ⟨rfl, hgr, _⟩
  replace P0 := P0.of_block (blockG hgr P0.lt (fun hm => by have := lt3; omega))
  replace S5 := S5.kept hgr.size (fun h => blockG hgr (S5.2.1 h).2.2 (fun hm => by have := (lt4 h); omega))
  replace U0 := U0.of_block (blockG hgr U0.lt (fun hm => by have := lt7; omega))
  replace S9 := S9.kept hgr.size (fun h => blockG hgr (S9.2.1 h).2.2 (fun hm => by have := (lt10 h); omega))
  replace B := below_rowOf B hgr B.size (fun _ => bzg70)
  clear hgr
  clear R70
  have hyy0 : 0 ≤ 1 + 4 * (n0 : Int) := by omega
  go_wp2_with fail
  refine (eqInt64S_any A9 A5 nn nn cap9 cap5 _ ff ff _ (by omega) (by omega) (Nat.le_refl _) (S9.rdN) (S5.rdN) ⟨rfl, fun _ _ => rfl⟩).mono ?_
  rintro e w12 ⟨rfl, hb⟩
  replace P0 := P0.below hb
  replace S5 := S5.below hb
  replace U0 := U0.below hb
  replace S9 := S9.below hb
  replace B := nxt B hb
  clear hb
  have hkk : (1 + (nn : Int) != 1 + (nn : Int)) = false := by simp
  go_wp2_with fail
  have hk90 : 0 ≤ 1 + (nn : Int) := by omega
  refine (markInt64S_any A9 g9 0 nn cap9 ff (1) _ (by omega) (by omega) (by omega) (fun h => (S9.2.1 h).1) S9.own).mono ?_
  rintro e w13 ⟨rfl, hgr, ho⟩
  replace P0 := P0.of_block (blockG hgr P0.lt (fun hm => by have := (lt8 hm); omega))
  replace S5 := S5.kept hgr.size (fun h => blockG hgr (S5.2.1 h).2.2 (fun hm => by have := (lt9 hm hm); omega))
  replace U0 := U0.of_block (blockG hgr U0.lt (fun hm => by have := (lt11 hm); omega))
  replace S9 := S9.marked hgr.size (by first | exact ho | simpa using ho)
  replace B := below_rowOf B hgr B.size bzg9
  clear hgr ho
  go_wp2_with fail
  refine (heldInt64S_any A9 g9 0 nn cap9 (1) _ (by omega) (by omega) (by omega) (fun h => (S9.2.1 h).1) S9.own).mono ?_
  rintro e w14 ⟨rfl, rfl⟩
  go_wp2_with (refine wpList_load_box P0 rfl _ _ rfl rfl _ Try.underlying25 rfl (by kernel_rfl) ?_)
  refine (toSquare_ab X0 Y0 A0 n0 ca0 w.heap.size c0 _ (by omega) B.size (HR0.out.below B)).mono ?_
  rintro e w15 ⟨g190, rfl, hg, hb, R190⟩
  have lt12 : w.heap.size < g190 := Nat.lt_of_lt_of_le P0.lt hg
  have lt13 : 0 < nn → g5 < g190 := fun h => Nat.lt_of_lt_of_le (S5.2.1 h).2.2 hg
  have lt14 : w4.heap.size < g190 := Nat.lt_of_lt_of_le U0.lt hg
  have lt15 : 0 < nn → g9 < g190 := fun h => Nat.lt_of_lt_of_le (S9.2.1 h).2.2 hg
  have bzg190 : w.heap.size ≤ g190 := Nat.le_trans B.size hg
  replace P0 := P0.below hb
  replace S5 := S5.below hb
  replace U0 := U0.below hb
  replace S9 := S9.below hb
  replace B := nxt B hb
  clear hb
  clear hg
  go_wp2_with fail
  refine (HI.out _ g190 B.size R190).mono ?_
  rintro e w16 ⟨hb, v19, rfl, A19, g19, cap19, S19⟩
  obtain rfl := S19.1
  have lt16 : 0 < nn → w.heap.size < g19 := fun h2 => Nat.lt_of_lt_of_le P0.lt (S19.2.1 h2).2.1
  have lt17 : 0 < nn → 0 < nn → g5 < g19 := fun h h2 => Nat.lt_of_lt_of_le (S5.2.1 h).2.2 (S19.2.1 h2).2.1
  have lt18 : 0 < nn → w4.heap.size < g19 := fun h2 => Nat.lt_of_lt_of_le U0.lt (S19.2.1 h2).2.1
  have lt19 : 0 < nn → 0 < nn → g9 < g19 := fun h h2 => Nat.lt_of_lt_of_le (S9.2.1 h).2.2 (S19.2.1 h2).2.1
  have lt20 : 0 < nn → g190 < g19 := fun h2 => Nat.lt_of_lt_of_le R190.1 (S19.2.1 h2).2.1
  have bzg19 : 0 < nn → w.heap.size ≤ g19 := fun h => Nat.le_trans B.size (S19.2.1 h).2.1
  replace P0 := P0.below hb
  replace S5 := S5.below hb
  replace U0 := U0.below hb
  replace S9 := S9.below hb
  replace R190 := R190.below hb
  replace B := nxt B hb
  clear hb
  clear R190
  go_wp2_with fail
  refine (eqInt64S_any A19 A5 nn nn cap19 cap5 _ ff ff _ (by omega) (by omega) (Nat.le_refl _) (S19.rdN) (S5.rdN) ⟨rfl, fun _ _ => rfl⟩).mono ?_
  rintro e w17 ⟨rfl, hb⟩
  replace P0 := P0.below hb
  replace S5 := S5.below hb
  replace U0 := U0.below hb
  replace S9 := S9.below hb
  replace S19 := S19.below hb
  replace B := nxt B hb
  clear hb
  go_wp2_with fail
  refine (heldInt64S_any A9 g9 0 nn cap9 (1) _ (by omega) (by omega) (by omega) (fun h => (S9.2.1 h).1) S9.own).mono ?_
  rintro e w18 ⟨rfl, rfl⟩
  go_wp2_with fail
  go_ret
  exact ⟨rfl, B⟩

theorem big0 (X0 Y0 : Int) (A0 : Option Addr) (n0 ca0 : Nat) (c0 : Nat → Int) (k1 : Int) (w : World)  (hn : 1048576 < n0) (hm : n0 ≤ 9223372036854775807) :
    Calls Try.prog 7 #[.agg #[.int .i8 X0, .int .i8 Y0, .slice A0 n0 ca0], .int .i64 k1] w fun e w' => e = .returned (.bool true) ∧ Below w.heap.size w w' := by
  have B : Below w.heap.size w w := Below.refl _ _
  go_enter Try.func7, Try.ntmps7
  have P0 := (Bx.new w #[.int .i8 X0, .int .i8 Y0, .slice A0 n0 ca0] 25)
  replace B := (al B (Obj.cells #[.int .i8 X0, .int .i8 Y0, .slice A0 n0 ca0] 25))
  go_wp2_with (refine wpList_load_box P0 rfl _ _ rfl rfl _ Try.underlying25 rfl (by kernel_rfl) ?_)
  refine (szSquare_big X0 Y0 (1048576) A0 n0 ca0 _ (by omega) (by omega) (by omega) hm).mono ?_
  rintro e w19 ⟨rfl, hb⟩
  replace P0 := P0.below hb
  replace B := nxt B hb
  clear hb
  go_wp2_with fail
  go_ret
  exact ⟨rfl, B⟩

theorem walk (X0 Y0 : Int) (A0 : Option Addr) (n0 ca0 : Nat) (c0 : Nat → Int) (k1 : Int) (w : World) (bX0 : -128 ≤ X0 ∧ X0 ≤ 127) (bY0 : -128 ≤ Y0 ∧ Y0 ≤ 127) (hm0 : n0 ≤ 9223372036854775807) (hc0 : ∀ j, -128 ≤ c0 j ∧ c0 j ≤ 127) (bk1 : (Lit.int .i64 k1).wf = true)
    (hr0 : Rd8 w w.heap.size A0 (4 * n0) c0) :
    Calls Try.prog 7 #[.agg #[.int .i8 X0, .int .i8 Y0, .slice A0 n0 ca0], .int .i64 k1] w fun e w' => e = .returned (.bool true) ∧ Below w.heap.size w w' := by
  by_cases hn0 : 1048576 < n0
  · exact big0 X0 Y0 A0 n0 ca0 c0 k1 w  hn0 hm0
  obtain ⟨z1, nn, ff, hnn, hS, hI⟩ := both X0 Y0 n0 c0 k1 bX0 bY0 hc0 (by omega) bk1
  exact law X0 Y0 A0 n0 ca0 c0 k1 z1 nn ff w (by omega) hnn hr0 (fun W G0 _ R0 => hS W G0 R0) (fun W G0 _ R0 => hI W G0 R0)

end Go.Proofs.Ytkdakpbkpfigeaa.besideSlab
