/-
  The walk of the law FnExactSlopeGround. Conditions stand at each.
-/
import Derived.Test.YtegnhpanlbfmdaaRows
import Derived.Test.YtegnhpanlbfmdaaGndT
import Derived.Test.YtegnhpanlbfmdaaGndA
import Derived.Test.YtegnhpanlbfmdaaSlopeGroundB
import Derived.Deep.RegionHeld3
import Derived.Deep.DeepCutAuto
import Derived.Lib.SmallJoins
namespace Go.Proofs.Ytegnhpanlbfmdaa.slopeGround
open Go Go.ChangeShapes Go.WideShapes Go.ChangeAt Go.RowKit
set_option linter.unusedVariables false
set_option linter.unusedSimpArgs false
set_option maxRecDepth 100000
set_option maxHeartbeats 4000000

theorem law (k0 : Int) (k1 : Int) (A2 : Option Addr) (n2 ca2 : Nat) (c2 : Nat → Int) (k3 : Int) (rX rY : Int) (rh : Nat → Int) (z1 : Int) (nn : Nat) (ff : Nat → Int) (w : World) (hn2 : n2 ≤ 1048576) (hnn : nn ≤ 1000)
    (hr2 : RdK .i8 w w.heap.size A2 (2 * n2) c2)
    (hS : ∀ (W : World) (G2 : Nat), w.heap.size ≤ W.heap.size → Ac W G2 n2 c2 → 
      Calls Try.prog 63 #[.int .i64 k0, .int .i64 k1, .slice (some ⟨G2, 0, none⟩) n2 n2, .int .i64 k3] W fun e w' => Below W.heap.size W w' ∧ ∃ v, e = .returned (.tuple #[.agg (gV rX rY rh v), .int .i64 z1]) ∧ HasSlice .i8 2 w' W.heap.size v nn ff)
    (hI : ∀ (W : World) (G2 : Nat), w.heap.size ≤ W.heap.size → Ac W G2 n2 c2 → 
      Calls Try.prog 65 #[.int .i64 k0, .int .i64 k1, .slice (some ⟨G2, 0, none⟩) n2 n2, .int .i64 k3] W fun e w' => Below W.heap.size W w' ∧ ∃ v, e = .returned (.tuple #[.agg (gV rX rY rh v), .int .i64 z1]) ∧ HasSlice .i8 2 w' W.heap.size v nn ff) :
    Calls Try.prog 16 #[.int .i64 k0, .int .i64 k1, .slice A2 n2 ca2, .int .i64 k3] w fun e w' => e = .returned (.bool true) ∧ Below w.heap.size w w' := by
  have HS := Lib.hid hS
  have HI := Lib.hid hI
  have HW := Nat.le_refl w.heap.size
  have HR2 := Lib.hid hr2
  have hz2 : 0 ≤ 1048576 - (n2 : Int) := by omega
  have hrr1 : (z1 != z1) = false := by simp
  have B : Below w.heap.size w w := Below.refl _ _
  clear hS hI HW hr2
  go_enter Try.func16, Try.ntmps16
  go_wp2_with fail
  refine (szCellS_ok A2 n2 ca2 (1048576) _ (by omega) (by omega) (by omega)).mono ?_
  rintro e w1 ⟨rfl, rfl⟩
  go_wp2_with fail
  refine (toCellS_any A2 n2 ca2 w.heap.size c2 _ (by omega) B.size (HR2.out.below B)).mono ?_
  rintro e w2 ⟨g52, rfl, hg, hb, R52⟩
  have bzg52 : w.heap.size ≤ g52 := Nat.le_trans B.size hg
  replace B := nxt B hb
  clear hb
  clear hg
  go_wp2_with fail
  refine (HS.out _ g52 B.size R52).mono ?_
  rintro e w3 ⟨hb, v5, rfl, A5, g5, cap5, S5⟩
  obtain rfl := S5.1
  have lt0 : 0 < nn → g52 < g5 := fun h => Nat.lt_of_lt_of_le R52.1 (S5.2.1 h).2.1
  have bzg5 : 0 < nn → w.heap.size ≤ g5 := fun h => Nat.le_trans B.size (S5.2.1 h).2.1
  replace R52 := R52.below hb
  replace B := nxt B hb
  clear hb
  clear R52
  go_wp2_with (first
    | (refine wpList_store_new rfl _ _ _ rfl rfl rfl (infoGv _ _ _ _) (by rw [zsize]) (gV_one _ _ _ _ _ _) ?_
       have lt1 : 0 < nn → g5 < w3.heap.size := fun h => (S5.2.1 h).2.2
       have O5_0 := Bx.new w3 (gV rX rY rh (.slice A5 nn cap5)) 33
       replace S5 := S5.alloc (.cells (gV rX rY rh (.slice A5 nn cap5)) 33)
       replace B := al B (.cells (gV rX rY rh (.slice A5 nn cap5)) 33)
       obtain ⟨w4, hW⟩ : ∃ W : World, W = w3.alloc (.cells (gV rX rY rh (.slice A5 nn cap5)) 33) := ⟨_, rfl⟩
       rw [← hW] at S5 O5_0 B ⊢
       clear hW))
  refine (toCellS_any A2 n2 ca2 w.heap.size c2 _ (by omega) B.size (HR2.out.below B)).mono ?_
  rintro e w5 ⟨g72, rfl, hg, hb, R72⟩
  have lt2 : 0 < nn → g5 < g72 := fun h => Nat.lt_of_lt_of_le (S5.2.1 h).2.2 hg
  have lt3 : w3.heap.size < g72 := Nat.lt_of_lt_of_le O5_0.lt hg
  have bzg72 : w.heap.size ≤ g72 := Nat.le_trans B.size hg
  replace S5 := S5.below hb
  replace O5_0 := O5_0.below hb
  replace B := nxt B hb
  clear hb
  clear hg
  go_wp2_with fail
  refine (HI.out _ g72 B.size R72).mono ?_
  rintro e w6 ⟨hb, v9, rfl, A9, g9, cap9, S9⟩
  obtain rfl := S9.1
  have lt4 : 0 < nn → g5 < g9 := fun h => Nat.lt_of_lt_of_le (S5.2.1 h).2.2 (S9.2.1 h).2.1
  have lt5 : 0 < nn → w3.heap.size < g9 := fun h => Nat.lt_of_lt_of_le O5_0.lt (S9.2.1 h).2.1
  have lt6 : 0 < nn → g72 < g9 := fun h => Nat.lt_of_lt_of_le R72.1 (S9.2.1 h).2.1
  have bzg9 : 0 < nn → w.heap.size ≤ g9 := fun h => Nat.le_trans B.size (S9.2.1 h).2.1
  replace S5 := S5.below hb
  replace O5_0 := O5_0.below hb
  replace R72 := R72.below hb
  replace B := nxt B hb
  clear hb
  go_wp2_with (first
    | (refine wpList_store_new rfl _ _ _ rfl rfl rfl (infoGv _ _ _ _) (by rw [zsize]) (gV_one _ _ _ _ _ _) ?_
       have lt7 : 0 < nn → g5 < w6.heap.size := fun h => (S5.2.1 h).2.2
       have lt8 : w3.heap.size < w6.heap.size := O5_0.lt
       have lt9 : g72 < w6.heap.size := R72.1
       have lt10 : 0 < nn → g9 < w6.heap.size := fun h => (S9.2.1 h).2.2
       have O9_0 := Bx.new w6 (gV rX rY rh (.slice A9 nn cap9)) 33
       replace S5 := S5.alloc (.cells (gV rX rY rh (.slice A9 nn cap9)) 33)
       replace O5_0 := O5_0.alloc (.cells (gV rX rY rh (.slice A9 nn cap9)) 33)
       replace R72 := R72.alloc (.cells (gV rX rY rh (.slice A9 nn cap9)) 33)
       replace S9 := S9.alloc (.cells (gV rX rY rh (.slice A9 nn cap9)) 33)
       replace B := al B (.cells (gV rX rY rh (.slice A9 nn cap9)) 33)
       obtain ⟨w7, hW⟩ : ∃ W : World, W = w6.alloc (.cells (gV rX rY rh (.slice A9 nn cap9)) 33) := ⟨_, rfl⟩
       rw [← hW] at S5 O5_0 R72 S9 O9_0 B ⊢
       clear hW)
    | (refine wpList_load_box O9_0 rfl _ _ rfl rfl _ Try.underlying33 rfl (infoGv _ _ _ _) ?_)
    | (refine wpList_load_box O5_0 rfl _ _ rfl rfl _ Try.underlying33 rfl (infoGv _ _ _ _) ?_))
  refine (eqGround_yes rX rY rh A9 A5 nn nn cap9 cap5 _ ff ff _ (by omega) (by omega) (Nat.le_refl _) (S9.rdC) (S5.rdC) ⟨rfl, fun _ _ => rfl⟩).mono ?_
  rintro e w8 ⟨rfl, hb⟩
  replace S5 := S5.below hb
  replace O5_0 := O5_0.below hb
  replace R72 := R72.below hb
  replace S9 := S9.below hb
  replace O9_0 := O9_0.below hb
  replace B := nxt B hb
  clear hb
  go_wp2_with fail
  refine (toCellS_any A2 n2 ca2 w.heap.size c2 _ (by omega) B.size (HR2.out.below B)).mono ?_
  rintro e w9 ⟨gc2, rfl, hg, hb, Rc2⟩
  have lt11 : 0 < nn → g5 < gc2 := fun h => Nat.lt_of_lt_of_le (S5.2.1 h).2.2 hg
  have lt12 : w3.heap.size < gc2 := Nat.lt_of_lt_of_le O5_0.lt hg
  have lt13 : g72 < gc2 := Nat.lt_of_lt_of_le R72.1 hg
  have lt14 : 0 < nn → g9 < gc2 := fun h => Nat.lt_of_lt_of_le (S9.2.1 h).2.2 hg
  have lt15 : w6.heap.size < gc2 := Nat.lt_of_lt_of_le O9_0.lt hg
  have bzgc2 : w.heap.size ≤ gc2 := Nat.le_trans B.size hg
  replace S5 := S5.below hb
  replace O5_0 := O5_0.below hb
  replace R72 := R72.below hb
  replace S9 := S9.below hb
  replace O9_0 := O9_0.below hb
  replace B := nxt B hb
  clear hb
  clear hg
  go_wp2_with fail
  refine (eqCellS_any (some ⟨g72, 0, none⟩) (some ⟨gc2, 0, none⟩) n2 n2 n2 n2 _ c2 c2 _ (by omega) (by omega) (Nat.le_refl _) R72.rd Rc2.rd ⟨rfl, fun _ _ => rfl⟩).mono ?_
  rintro e w10 ⟨rfl, hb⟩
  replace S5 := S5.below hb
  replace O5_0 := O5_0.below hb
  replace R72 := R72.below hb
  replace S9 := S9.below hb
  replace O9_0 := O9_0.below hb
  replace Rc2 := Rc2.below hb
  replace B := nxt B hb
  clear hb
  clear Rc2
  go_wp2_with fail
  refine (markCellS_any (some ⟨g72, 0, none⟩) g72 0 n2 n2 c2 (1) _ (by omega) (by omega) (by omega) (fun _ => rfl) R72.2).mono ?_
  rintro e w11 ⟨rfl, hgr, _⟩
  replace S5 := S5.kept hgr.size (fun h => blockG hgr (S5.2.1 h).2.2 (fun hm => by have := (lt2 h); omega))
  replace O5_0 := O5_0.of_block (blockG hgr O5_0.lt (fun hm => by have := lt3; omega))
  replace S9 := S9.kept hgr.size (fun h => blockG hgr (S9.2.1 h).2.2 (fun hm => by have := (lt6 h); omega))
  replace O9_0 := O9_0.of_block (blockG hgr O9_0.lt (fun hm => by have := lt9; omega))
  replace B := below_rowOf B hgr B.size (fun _ => bzg72)
  clear hgr
  clear R72
  have hyy2 : 0 ≤ 1 + 2 * (n2 : Int) := by omega
  go_wp2_with (first
    | (refine wpList_load_boxG O9_0 (by kernel_rfl) _ _ rfl rfl _ Try.underlying33 rfl (infoGv _ _ _ _) ?_)
    | (refine wpList_load_boxG O5_0 (by kernel_rfl) _ _ rfl rfl _ Try.underlying33 rfl (infoGv _ _ _ _) ?_))
  refine (eqGround_yes rX rY rh A9 A5 nn nn cap9 cap5 _ ff ff _ (by omega) (by omega) (Nat.le_refl _) (S9.rdC) (S5.rdC) ⟨rfl, fun _ _ => rfl⟩).mono ?_
  rintro e w12 ⟨rfl, hb⟩
  replace S5 := S5.below hb
  replace O5_0 := O5_0.below hb
  replace S9 := S9.below hb
  replace O9_0 := O9_0.below hb
  replace B := nxt B hb
  clear hb
  go_wp2_with (refine wpList_load_box O9_0 rfl _ _ rfl rfl _ Try.underlying33 rfl (infoGv _ _ _ _) ?_)
  have hk9 : 0 ≤ 1 + 2 * (nn : Int) := by omega
  have hkk : (1 + 2 * (nn : Int) != 1 + 2 * (nn : Int)) = false := by simp
  refine (markGround_any rX rY rh A9 g9 0 nn cap9 ff 1 _ (by omega) (by omega) (by omega) (fun h => (S9.2.1 h).1) (fun h => (S9.2.1 h).2.2) S9.2.2).mono ?_
  rintro e w13 ⟨rfl, hgr, ho⟩
  replace S5 := S5.kept hgr.size (fun h => blockG hgr (S5.2.1 h).2.2 (fun hm => by have := (lt4 h); omega))
  replace O5_0 := O5_0.of_block (blockG hgr O5_0.lt (fun hm => by have := (lt5 hm); omega))
  replace O9_0 := O9_0.of_block (blockG hgr O9_0.lt (fun hm => by have := (lt10 hm); omega))
  replace S9 := S9.marked hgr.size ho
  replace B := below_rowOf B hgr B.size bzg9
  clear hgr ho
  go_wp2_with (refine wpList_load_box O9_0 rfl _ _ rfl rfl _ Try.underlying33 rfl (infoGv _ _ _ _) ?_)
  refine (heldGround_any rX rY rh A9 g9 0 nn cap9 1 _ (by omega) (by omega) (by omega) (fun h => (S9.2.1 h).1) (fun h => (S9.2.1 h).2.2) S9.2.2).mono ?_
  rintro e w14 ⟨rfl, hb⟩
  replace S5 := S5.below hb
  replace O5_0 := O5_0.below hb
  replace S9 := S9.below hb
  replace O9_0 := O9_0.below hb
  replace B := nxt B hb
  clear hb
  go_wp2_with fail
  refine (toCellS_any A2 n2 ca2 w.heap.size c2 _ (by omega) B.size (HR2.out.below B)).mono ?_
  rintro e w15 ⟨g192, rfl, hg, hb, R192⟩
  have lt16 : 0 < nn → g5 < g192 := fun h => Nat.lt_of_lt_of_le (S5.2.1 h).2.2 hg
  have lt17 : w3.heap.size < g192 := Nat.lt_of_lt_of_le O5_0.lt hg
  have lt18 : 0 < nn → g9 < g192 := fun h => Nat.lt_of_lt_of_le (S9.2.1 h).2.2 hg
  have lt19 : w6.heap.size < g192 := Nat.lt_of_lt_of_le O9_0.lt hg
  have bzg192 : w.heap.size ≤ g192 := Nat.le_trans B.size hg
  replace S5 := S5.below hb
  replace O5_0 := O5_0.below hb
  replace S9 := S9.below hb
  replace O9_0 := O9_0.below hb
  replace B := nxt B hb
  clear hb
  clear hg
  go_wp2_with fail
  refine (HI.out _ g192 B.size R192).mono ?_
  rintro e w16 ⟨hb, v19, rfl, A19, g19, cap19, S19⟩
  obtain rfl := S19.1
  have lt20 : 0 < nn → g5 < g19 := fun h => Nat.lt_of_lt_of_le (S5.2.1 h).2.2 (S19.2.1 h).2.1
  have lt21 : 0 < nn → w3.heap.size < g19 := fun h => Nat.lt_of_lt_of_le O5_0.lt (S19.2.1 h).2.1
  have lt22 : 0 < nn → g9 < g19 := fun h => Nat.lt_of_lt_of_le (S9.2.1 h).2.2 (S19.2.1 h).2.1
  have lt23 : 0 < nn → w6.heap.size < g19 := fun h => Nat.lt_of_lt_of_le O9_0.lt (S19.2.1 h).2.1
  have lt24 : 0 < nn → g192 < g19 := fun h => Nat.lt_of_lt_of_le R192.1 (S19.2.1 h).2.1
  have bzg19 : 0 < nn → w.heap.size ≤ g19 := fun h => Nat.le_trans B.size (S19.2.1 h).2.1
  replace S5 := S5.below hb
  replace O5_0 := O5_0.below hb
  replace S9 := S9.below hb
  replace O9_0 := O9_0.below hb
  replace R192 := R192.below hb
  replace B := nxt B hb
  clear hb
  clear R192
  go_wp2_with (first
    | (refine wpList_store_new rfl _ _ _ rfl rfl rfl (infoGv _ _ _ _) (by rw [zsize]) (gV_one _ _ _ _ _ _) ?_
       have lt25 : 0 < nn → g5 < w16.heap.size := fun h => (S5.2.1 h).2.2
       have lt26 : w3.heap.size < w16.heap.size := O5_0.lt
       have lt27 : 0 < nn → g9 < w16.heap.size := fun h => (S9.2.1 h).2.2
       have lt28 : w6.heap.size < w16.heap.size := O9_0.lt
       have lt29 : 0 < nn → g19 < w16.heap.size := fun h => (S19.2.1 h).2.2
       have O19_0 := Bx.new w16 (gV rX rY rh (.slice A19 nn cap19)) 33
       replace S5 := S5.alloc (.cells (gV rX rY rh (.slice A19 nn cap19)) 33)
       replace O5_0 := O5_0.alloc (.cells (gV rX rY rh (.slice A19 nn cap19)) 33)
       replace S9 := S9.alloc (.cells (gV rX rY rh (.slice A19 nn cap19)) 33)
       replace O9_0 := O9_0.alloc (.cells (gV rX rY rh (.slice A19 nn cap19)) 33)
       replace S19 := S19.alloc (.cells (gV rX rY rh (.slice A19 nn cap19)) 33)
       replace B := al B (.cells (gV rX rY rh (.slice A19 nn cap19)) 33)
       obtain ⟨w17, hW⟩ : ∃ W : World, W = w16.alloc (.cells (gV rX rY rh (.slice A19 nn cap19)) 33) := ⟨_, rfl⟩
       rw [← hW] at S5 O5_0 S9 O9_0 S19 O19_0 B ⊢
       clear hW)
    | (refine wpList_load_box O19_0 rfl _ _ rfl rfl _ Try.underlying33 rfl (infoGv _ _ _ _) ?_)
    | (refine wpList_load_box O5_0 rfl _ _ rfl rfl _ Try.underlying33 rfl (infoGv _ _ _ _) ?_))
  refine (eqGround_yes rX rY rh A19 A5 nn nn cap19 cap5 _ ff ff _ (by omega) (by omega) (Nat.le_refl _) (S19.rdC) (S5.rdC) ⟨rfl, fun _ _ => rfl⟩).mono ?_
  rintro e w18 ⟨rfl, hb⟩
  replace S5 := S5.below hb
  replace O5_0 := O5_0.below hb
  replace S9 := S9.below hb
  replace O9_0 := O9_0.below hb
  replace S19 := S19.below hb
  replace O19_0 := O19_0.below hb
  replace B := nxt B hb
  clear hb
  go_wp2_with (refine wpList_load_box O9_0 rfl _ _ rfl rfl _ Try.underlying33 rfl (infoGv _ _ _ _) ?_)
  refine (heldGround_any rX rY rh A9 g9 0 nn cap9 1 _ (by omega) (by omega) (by omega) (fun h => (S9.2.1 h).1) (fun h => (S9.2.1 h).2.2) S9.2.2).mono ?_
  rintro e w19 ⟨rfl, hb⟩
  replace S5 := S5.below hb
  replace O5_0 := O5_0.below hb
  replace S9 := S9.below hb
  replace O9_0 := O9_0.below hb
  replace S19 := S19.below hb
  replace O19_0 := O19_0.below hb
  replace B := nxt B hb
  clear hb
  go_wp2_with fail
  go_ret
  exact ⟨rfl, B⟩

theorem big2 (k0 : Int) (k1 : Int) (A2 : Option Addr) (n2 ca2 : Nat) (c2 : Nat → Int) (k3 : Int) (w : World)  (hn : 1048576 < n2) (hm : n2 ≤ 9223372036854775807) :
    Calls Try.prog 16 #[.int .i64 k0, .int .i64 k1, .slice A2 n2 ca2, .int .i64 k3] w fun e w' => e = .returned (.bool true) ∧ Below w.heap.size w w' := by
  have B : Below w.heap.size w w := Below.refl _ _
  go_enter Try.func16, Try.ntmps16
  go_wp2_with fail
  refine (szCellS_big A2 n2 ca2 (1048576) _ (by omega) (by omega) (by omega) hm).mono ?_
  rintro e w20 ⟨rfl, rfl⟩
  go_wp2_with fail
  go_ret
  exact ⟨rfl, B⟩

theorem walk (k0 : Int) (k1 : Int) (A2 : Option Addr) (n2 ca2 : Nat) (c2 : Nat → Int) (k3 : Int) (w : World) (bk0 : (Lit.int .i64 k0).wf = true) (bk1 : (Lit.int .i64 k1).wf = true) (hm2 : n2 ≤ 9223372036854775807) (hc2 : ∀ j, -128 ≤ c2 j ∧ c2 j ≤ 127) (bk3 : (Lit.int .i64 k3).wf = true)
    (hr2 : RdK .i8 w w.heap.size A2 (2 * n2) c2) :
    Calls Try.prog 16 #[.int .i64 k0, .int .i64 k1, .slice A2 n2 ca2, .int .i64 k3] w fun e w' => e = .returned (.bool true) ∧ Below w.heap.size w w' := by
  by_cases hn2 : 1048576 < n2
  · exact big2 k0 k1 A2 n2 ca2 c2 k3 w  hn2 hm2
  obtain ⟨rX, rY, rh, z1, nn, ff, hnn, hS, hI⟩ := both k0 k1 n2 c2 k3 bk0 bk1 hc2 (by omega) bk3
  exact law k0 k1 A2 n2 ca2 c2 k3 rX rY rh z1 nn ff w (by omega) hnn hr2 (fun W G2 _ R2 => hS W G2 R2) (fun W G2 _ R2 => hI W G2 R2)

end Go.Proofs.Ytegnhpanlbfmdaa.slopeGround
