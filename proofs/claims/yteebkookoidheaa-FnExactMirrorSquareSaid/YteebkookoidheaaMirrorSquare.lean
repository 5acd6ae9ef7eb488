/-
  FnExactMirrorSquare: at every argument MirrorSquare answers as its model, writes into no argument, and its answer owns its memory. No condition.
-/
import Derived.Test.YteebkookoidheaaRows
import Derived.Test.YteebkookoidheaaC2
import Derived.Test.YteebkookoidheaaOpenS
import Derived.Test.YteebkookoidheaaResSq
import Derived.Test.YteebkookoidheaaMirrorSquareB
import Derived.Deep.RegionHeld3
import Derived.Lib.SmallJoins
namespace Go.Proofs.Yteebkookoidheaa.mirrorSquare
open Go Go.ChangeShapes Go.WideShapes Go.ChangeAt Go.RowKit
set_option linter.unusedVariables false
set_option linter.unusedSimpArgs false
set_option maxRecDepth 100000
set_option maxHeartbeats 2000000

theorem law (x y : Int) (A : Option Addr) (n ca : Nat) (c : Nat → Int) (rx ry z1 : Int) (nn : Nat) (ff : Nat → Int) (w : World) (hn : n ≤ 1048576) (hnn : nn ≤ 1000)
    (hr : Rd8 w w.heap.size A (4 * n) c)
    (hS : ∀ (W : World) (g : Nat), w.heap.size ≤ W.heap.size → W.rowIs g 31 (4 * n) (fun j => .int .i8 (c j)) →
      Calls Try.prog 28 #[.agg #[.int .i8 x, .int .i8 y, .slice (some ⟨g, 0, none⟩) n n]] W fun e w' => Below W.heap.size W w' ∧ ∃ v, e = .returned (.tuple #[.agg #[.int .i8 rx, .int .i8 ry, v], .int .i64 z1]) ∧ HasSlice .i8 4 w' W.heap.size v nn ff)
    (hI : ∀ (W : World) (g : Nat), w.heap.size ≤ W.heap.size → W.rowIs g 31 (4 * n) (fun j => .int .i8 (c j)) →
      Calls Try.prog 29 #[.agg #[.int .i8 x, .int .i8 y, .slice (some ⟨g, 0, none⟩) n n]] W fun e w' => Below W.heap.size W w' ∧ ∃ v, e = .returned (.tuple #[.agg #[.int .i8 rx, .int .i8 ry, v], .int .i64 z1]) ∧ HasSlice .i8 4 w' W.heap.size v nn ff) :
    Calls Try.prog 6 #[.agg #[.int .i8 x, .int .i8 y, .slice A n ca]] w fun e w' => e = .returned (.bool true) ∧ Below w.heap.size w w' := by
  have HS := Lib.hid hS
  have HI := Lib.hid hI
  have hz0 : 0 ≤ 1048576 - (n : Int) := by omega
  have HR := Lib.hid hr
  have B : Below w.heap.size w w := Below.refl _ _
  clear hS hI hr
  go_enter Try.func6, Try.ntmps6
  go_wp2_with fail
  refine (szSquare_ok x y 1048576 A n ca _ (by omega) (by omega) (by omega)).mono ?_
  rintro e w1 ⟨rfl, hb⟩
  have H2 := (Sq.new w x y (.slice A n ca) 25).below hb
  replace B := nxt (al B _) hb
  have k2 : w.heap.size < w1.heap.size := H2.1
  clear hb
  obtain ⟨l2, p2, q2, r2⟩ := id H2
  have hrrz1 : (z1 != z1) = false := by simp
  go_wp2_with fail
  refine (toSquare_any x y A n ca w.heap.size c _ (by omega) B.size (HR.out.below B)).mono ?_
  rintro e w3 ⟨g1, rfl, hg1, hb, R1⟩
  replace H2 := H2.below hb
  replace B := nxt B hb
  clear hb l2 p2 q2 r2
  obtain ⟨l2, p2, q2, r2⟩ := id H2
  go_wp2_with fail
  refine (HS.out _ g1 B.size R1).mono ?_
  rintro e w5 ⟨hb, v5, rfl, A5, g5, cap5, S5⟩
  obtain rfl := S5.1
  replace H2 := H2.below hb
  replace B := nxt B hb
  clear hb l2 p2 q2 r2
  obtain ⟨l2, p2, q2, r2⟩ := id H2
  clear R1 hg1
  go_wp2_with fail
  have H5 := Sq.new w5 rx ry (.slice A5 nn cap5) 29
  replace H2 := H2.alloc (.cells #[.int .i8 rx, .int .i8 ry, .slice A5 nn cap5] 29)
  replace S5 := S5.alloc (.cells #[.int .i8 rx, .int .i8 ry, .slice A5 nn cap5] 29)
  replace B := al B (.cells #[.int .i8 rx, .int .i8 ry, .slice A5 nn cap5] 29)
  have zV5 : (w5.alloc (.cells #[.int .i8 rx, .int .i8 ry, .slice A5 nn cap5] 29)).heap.size = w5.heap.size + 1 := by simp
  obtain ⟨V5, hV5⟩ : ∃ V, V = (w5.alloc (.cells #[.int .i8 rx, .int .i8 ry, .slice A5 nn cap5] 29)) := ⟨_, rfl⟩
  rw [← hV5] at H2 H5  S5 B zV5 ⊢
  replace zV5 := Lib.hid zV5
  clear hV5 l2 p2 q2 r2
  obtain ⟨l2, p2, q2, r2⟩ := id H2
  obtain ⟨l5, p5, q5, r5⟩ := id H5
  refine (toSquare_any x y A n ca w.heap.size c _ (by omega) B.size (HR.out.below B)).mono ?_
  rintro e w6 ⟨g7, rfl, hg7, hb, R7⟩
  have n57 : 0 < nn → g5 < g7 := fun h => Nat.lt_of_lt_of_le (S5.2.1 h).2.2 hg7
  have n27 : w.heap.size < g7 := Nat.lt_of_lt_of_le H2.1 hg7
  have m57 : w5.heap.size < g7 := Nat.lt_of_lt_of_le H5.1 hg7
  replace H2 := H2.below hb
  replace H5 := H5.below hb
  replace S5 := S5.below hb
  replace B := nxt B hb
  clear hb l2 p2 q2 r2 l5 p5 q5 r5
  obtain ⟨l2, p2, q2, r2⟩ := id H2
  obtain ⟨l5, p5, q5, r5⟩ := id H5
  go_wp2_with fail
  have n77 : g7 < w6.heap.size := R7.lt
  have H7 := Sq.new w6 x y (.slice (some ⟨g7, 0, none⟩) n n) 29
  replace H2 := H2.alloc (.cells #[.int .i8 x, .int .i8 y, .slice (some ⟨g7, 0, none⟩) n n] 29)
  replace H5 := H5.alloc (.cells #[.int .i8 x, .int .i8 y, .slice (some ⟨g7, 0, none⟩) n n] 29)
  replace R7 := R7.alloc (.cells #[.int .i8 x, .int .i8 y, .slice (some ⟨g7, 0, none⟩) n n] 29)
  replace S5 := S5.alloc (.cells #[.int .i8 x, .int .i8 y, .slice (some ⟨g7, 0, none⟩) n n] 29)
  replace B := al B (.cells #[.int .i8 x, .int .i8 y, .slice (some ⟨g7, 0, none⟩) n n] 29)
  refine (HI.out _ g7 B.size R7).mono ?_
  rintro e w9 ⟨hb, v9, rfl, A9, g9, cap9, S9⟩
  obtain rfl := S9.1
  have n79 : 0 < nn → w6.heap.size < g9 := fun h => by have := (S9.2.1 h).2.1; simp at this; omega
  have x9 : w6.heap.size < w9.heap.size := by have := hb.size; simp at this; omega
  have u9 : 0 < nn → g9 < w9.heap.size := fun h => (S9.2.1 h).2.2
  replace H2 := H2.below hb
  replace H5 := H5.below hb
  replace H7 := H7.below hb
  replace R7 := rowNext0 R7 hb
  replace S5 := S5.below hb
  replace B := nxt B hb
  clear hb l2 p2 q2 r2 l5 p5 q5 r5 
  obtain ⟨l2, p2, q2, r2⟩ := id H2
  obtain ⟨l5, p5, q5, r5⟩ := id H5
  obtain ⟨l7, p7, q7, r7⟩ := id H7
  go_wp2_with fail
  have H9 := Sq.new w9 rx ry (.slice A9 nn cap9) 29
  replace H2 := H2.alloc (.cells #[.int .i8 rx, .int .i8 ry, .slice A9 nn cap9] 29)
  replace H5 := H5.alloc (.cells #[.int .i8 rx, .int .i8 ry, .slice A9 nn cap9] 29)
  replace H7 := H7.alloc (.cells #[.int .i8 rx, .int .i8 ry, .slice A9 nn cap9] 29)
  replace R7 := R7.alloc (.cells #[.int .i8 rx, .int .i8 ry, .slice A9 nn cap9] 29)
  replace S5 := S5.alloc (.cells #[.int .i8 rx, .int .i8 ry, .slice A9 nn cap9] 29)
  replace S9 := S9.alloc (.cells #[.int .i8 rx, .int .i8 ry, .slice A9 nn cap9] 29)
  replace B := al B (.cells #[.int .i8 rx, .int .i8 ry, .slice A9 nn cap9] 29)
  have zV9 : (w9.alloc (.cells #[.int .i8 rx, .int .i8 ry, .slice A9 nn cap9] 29)).heap.size = w9.heap.size + 1 := by simp
  obtain ⟨V9, hV9⟩ : ∃ V, V = (w9.alloc (.cells #[.int .i8 rx, .int .i8 ry, .slice A9 nn cap9] 29)) := ⟨_, rfl⟩
  rw [← hV9] at H2 H5 H7 H9 R7 S5 S9 B zV9 ⊢
  replace zV9 := Lib.hid zV9
  clear hV9 l2 p2 q2 r2 l5 p5 q5 r5 l7 p7 q7 r7
  obtain ⟨l2, p2, q2, r2⟩ := id H2
  obtain ⟨l5, p5, q5, r5⟩ := id H5
  obtain ⟨l7, p7, q7, r7⟩ := id H7
  obtain ⟨l9, p9, q9, r9⟩ := id H9
  refine (eqSq rx ry (by omega) S9 S5).mono ?_
  rintro e w10 ⟨rfl, hb⟩
  replace H2 := H2.below hb
  replace H5 := H5.below hb
  replace H7 := H7.below hb
  replace H9 := H9.below hb
  replace R7 := rowNext0 R7 hb
  replace S5 := S5.below hb
  replace S9 := S9.below hb
  replace B := nxt B hb
  clear hb l2 p2 q2 r2 l5 p5 q5 r5 l7 p7 q7 r7 l9 p9 q9 r9
  obtain ⟨l2, p2, q2, r2⟩ := id H2
  obtain ⟨l5, p5, q5, r5⟩ := id H5
  obtain ⟨l7, p7, q7, r7⟩ := id H7
  obtain ⟨l9, p9, q9, r9⟩ := id H9
  go_wp2_with fail
  replace B := B.drew
  replace H2 : Sq w10.drew _ _ _ _ := H2
  replace H5 : Sq w10.drew _ _ _ _ := H5
  replace H7 : Sq w10.drew _ _ _ _ := H7
  replace H9 : Sq w10.drew _ _ _ _ := H9
  replace R7 : w10.drew.rowIs g7 31 (4 * n) (fun j => .int .i8 (c j)) := R7
  replace S5 : SliceOf .i8 4 w10.drew _ _ nn ff A5 g5 cap5 := S5
  replace S9 : SliceOf .i8 4 w10.drew _ _ nn ff A9 g9 cap9 := S9
  clear l2 p2 q2 r2 l5 p5 q5 r5 l7 p7 q7 r7 l9 p9 q9 r9
  obtain ⟨l2, p2, q2, r2⟩ := id H2
  obtain ⟨l5, p5, q5, r5⟩ := id H5
  obtain ⟨l7, p7, q7, r7⟩ := id H7
  obtain ⟨l9, p9, q9, r9⟩ := id H9
  go_region_held3 (fun w' => w'.cell? ⟨w6.heap.size, 0, none⟩ = some (.int .i8 x) ∧ w'.cell? ⟨w6.heap.size, 1, none⟩ = some (.int .i8 y) ∧ w'.cell? ⟨w6.heap.size, 2, none⟩ = some (.slice (some ⟨g7, 0, none⟩) n n) ∧ w'.cell? ⟨w.heap.size, 0, none⟩ = some (.int .i8 x) ∧ w'.cell? ⟨w.heap.size, 1, none⟩ = some (.int .i8 y) ∧ w'.cell? ⟨w.heap.size, 2, none⟩ = some (.slice A n ca))
    (first | exact ⟨p7, q7, r7, p2, q2, r2⟩)
    (first
      | (go_at_call 17
         with_reducible refine (toSquare_any x y A n ca w.heap.size c _ (by omega) B.size (HR.out.below B)).mono ?_
         rintro e w11 ⟨g10, rfl, hg10, hb, R10⟩
         replace H2 := H2.below hb
         replace H5 := H5.below hb
         replace H7 := H7.below hb
         replace H9 := H9.below hb
         replace R7 := rowNext0 R7 hb
         replace S5 := S5.below hb
         replace S9 := S9.below hb
         replace B := nxt B hb
         clear hb l2 p2 q2 r2 l5 p5 q5 r5 l7 p7 q7 r7 l9 p9 q9 r9
         obtain ⟨l2, p2, q2, r2⟩ := id H2
         obtain ⟨l5, p5, q5, r5⟩ := id H5
         obtain ⟨l7, p7, q7, r7⟩ := id H7
         obtain ⟨l9, p9, q9, r9⟩ := id H9)
      | (go_at_call 19
         with_reducible refine (eqSquare_yes x y (some ⟨g7, 0, none⟩) (some ⟨g10, 0, none⟩) n n n n w11.heap.size c c _ (by omega) (by omega) (Nat.le_refl _) ((Own8.of_row R7).rd R7.lt) ((Own8.of_row R10).rd R10.lt) ⟨rfl, fun _ _ => rfl⟩).mono ?_
         rintro e w12 ⟨rfl, hb⟩
         replace H2 := H2.below hb
         replace H5 := H5.below hb
         replace H7 := H7.below hb
         replace H9 := H9.below hb
         replace R7 := rowNext0 R7 hb
         replace S5 := S5.below hb
         replace S9 := S9.below hb
         replace B := nxt B hb
         clear hb l2 p2 q2 r2 l5 p5 q5 r5 l7 p7 q7 r7 l9 p9 q9 r9
         obtain ⟨l2, p2, q2, r2⟩ := id H2
         obtain ⟨l5, p5, q5, r5⟩ := id H5
         obtain ⟨l7, p7, q7, r7⟩ := id H7
         obtain ⟨l9, p9, q9, r9⟩ := id H9
         clear R10 hg10))
  go_wp2_with fail
  have hk4 : 0 ≤ 1 + 4 * (n : Int) := by omega
  have hk9 : 0 ≤ 1 + 4 * (nn : Int) := by omega
  have hkk : (1 + 4 * (nn : Int) != 1 + 4 * (nn : Int)) = false := by simp
  refine (markSquare_any x y (some ⟨g7, 0, none⟩) g7 0 n n c 1 _ (by omega) (by omega) (by omega) (fun _ => rfl) (Own8.of_row R7) (fun _ => R7.lt)).mono ?_
  rintro e w13 ⟨rfl, hgr, _⟩
  have hbw : w.heap.size ≤ g7 := by omega
  replace H2 := H2.grown hgr (by omega)
  replace H5 := H5.grown hgr (by omega)
  replace H9 := H9.grown hgr (by omega)
  replace S5 := S5.kept hgr.size (fun h => hgr.block g5 (S5.2.1 h).2.2 (by have := n57 h; simp; omega))
  replace S9 := S9.kept hgr.size (fun h => hgr.block g9 (S9.2.1 h).2.2 (by have := n79 h; simp; omega))
  replace B := below_grown B hgr B.size hbw
  clear hgr l7 p7 q7 r7 R7 H7 l2 p2 q2 r2 l5 p5 q5 r5 l9 p9 q9 r9
  obtain ⟨l2, p2, q2, r2⟩ := id H2
  obtain ⟨l5, p5, q5, r5⟩ := id H5
  obtain ⟨l9, p9, q9, r9⟩ := id H9
  go_wp2_with fail
  refine (eqSq rx ry (by omega) S9 S5).mono ?_
  rintro e w14 ⟨rfl, hb⟩
  replace H2 := H2.below hb
  replace H5 := H5.below hb
  replace H9 := H9.below hb
  replace S5 := S5.below hb
  replace S9 := S9.below hb
  replace B := nxt B hb
  clear hb l2 p2 q2 r2 l5 p5 q5 r5 l9 p9 q9 r9
  obtain ⟨l2, p2, q2, r2⟩ := id H2
  obtain ⟨l5, p5, q5, r5⟩ := id H5
  obtain ⟨l9, p9, q9, r9⟩ := id H9
  go_wp2_with fail
  refine (markSq rx ry (by omega) S9).mono ?_
  rintro e w15 ⟨rfl, hgr, S9'⟩
  replace H2 := H2.of_block hgr.size (blockG hgr H2.1 (fun h => by have := n79 h; have := u9 h; omega))
  replace H5 := H5.of_block hgr.size (blockG hgr H5.1 (fun h => by have := n79 h; have := u9 h; omega))
  replace H9 := H9.of_block hgr.size (blockG hgr H9.1 (fun h => by have := n79 h; have := u9 h; omega))
  replace S5 := S5.kept hgr.size (fun h => blockG hgr (S5.2.1 h).2.2 (fun _ => by have := n57 h; have := n79 h; omega))
  replace S9 := S9'
  replace B := below_rowOf B hgr B.size (fun h => by have := n79 h; omega)
  clear hgr S9' l2 p2 q2 r2 l5 p5 q5 r5 l9 p9 q9 r9
  obtain ⟨l2, p2, q2, r2⟩ := id H2
  obtain ⟨l5, p5, q5, r5⟩ := id H5
  obtain ⟨l9, p9, q9, r9⟩ := id H9
  go_wp2_with fail
  refine (heldSq rx ry (by omega) S9).mono ?_
  rintro e w16 ⟨rfl, hb⟩
  replace H2 := H2.below hb
  replace H5 := H5.below hb
  replace H9 := H9.below hb
  replace S5 := S5.below hb
  replace S9 := S9.below hb
  replace B := nxt B hb
  clear hb l2 p2 q2 r2 l5 p5 q5 r5 l9 p9 q9 r9
  obtain ⟨l2, p2, q2, r2⟩ := id H2
  obtain ⟨l5, p5, q5, r5⟩ := id H5
  obtain ⟨l9, p9, q9, r9⟩ := id H9
  go_wp2_with fail
  refine (toSquare_any x y A n ca w.heap.size c _ (by omega) B.size (HR.out.below B)).mono ?_
  rintro e w17 ⟨g18, rfl, hg18, hb, R18⟩
  replace H2 := H2.below hb
  replace H5 := H5.below hb
  replace H9 := H9.below hb
  replace S5 := S5.below hb
  replace S9 := S9.below hb
  replace B := nxt B hb
  clear hb l2 p2 q2 r2 l5 p5 q5 r5 l9 p9 q9 r9
  obtain ⟨l2, p2, q2, r2⟩ := id H2
  obtain ⟨l5, p5, q5, r5⟩ := id H5
  obtain ⟨l9, p9, q9, r9⟩ := id H9
  go_wp2_with fail
  refine (HI.out _ g18 B.size R18).mono ?_
  rintro e w19 ⟨hb, v19, rfl, A19, g19, cap19, S19⟩
  obtain rfl := S19.1
  replace H2 := H2.below hb
  replace H5 := H5.below hb
  replace H9 := H9.below hb
  replace S5 := S5.below hb
  replace S9 := S9.below hb
  replace B := nxt B hb
  clear hb l2 p2 q2 r2 l5 p5 q5 r5 l9 p9 q9 r9
  obtain ⟨l2, p2, q2, r2⟩ := id H2
  obtain ⟨l5, p5, q5, r5⟩ := id H5
  obtain ⟨l9, p9, q9, r9⟩ := id H9
  clear R18 hg18
  go_wp2_with fail
  have H19 := Sq.new w19 rx ry (.slice A19 nn cap19) 29
  replace H2 := H2.alloc (.cells #[.int .i8 rx, .int .i8 ry, .slice A19 nn cap19] 29)
  replace H5 := H5.alloc (.cells #[.int .i8 rx, .int .i8 ry, .slice A19 nn cap19] 29)
  replace H9 := H9.alloc (.cells #[.int .i8 rx, .int .i8 ry, .slice A19 nn cap19] 29)
  replace S5 := S5.alloc (.cells #[.int .i8 rx, .int .i8 ry, .slice A19 nn cap19] 29)
  replace S9 := S9.alloc (.cells #[.int .i8 rx, .int .i8 ry, .slice A19 nn cap19] 29)
  replace S19 := S19.alloc (.cells #[.int .i8 rx, .int .i8 ry, .slice A19 nn cap19] 29)
  replace B := al B (.cells #[.int .i8 rx, .int .i8 ry, .slice A19 nn cap19] 29)
  have zV19 : (w19.alloc (.cells #[.int .i8 rx, .int .i8 ry, .slice A19 nn cap19] 29)).heap.size = w19.heap.size + 1 := by simp
  obtain ⟨V19, hV19⟩ : ∃ V, V = (w19.alloc (.cells #[.int .i8 rx, .int .i8 ry, .slice A19 nn cap19] 29)) := ⟨_, rfl⟩
  rw [← hV19] at H2 H5 H9 H19  S5 S9 S19 B zV19 ⊢
  replace zV19 := Lib.hid zV19
  clear hV19 l2 p2 q2 r2 l5 p5 q5 r5 l9 p9 q9 r9
  obtain ⟨l2, p2, q2, r2⟩ := id H2
  obtain ⟨l5, p5, q5, r5⟩ := id H5
  obtain ⟨l9, p9, q9, r9⟩ := id H9
  obtain ⟨l19, p19, q19, r19⟩ := id H19
  refine (eqSq rx ry (by omega) S19 S5).mono ?_
  rintro e w20 ⟨rfl, hb⟩
  replace H2 := H2.below hb
  replace H5 := H5.below hb
  replace H9 := H9.below hb
  replace H19 := H19.below hb
  replace S5 := S5.below hb
  replace S9 := S9.below hb
  replace S19 := S19.below hb
  replace B := nxt B hb
  clear hb l2 p2 q2 r2 l5 p5 q5 r5 l9 p9 q9 r9 l19 p19 q19 r19
  obtain ⟨l2, p2, q2, r2⟩ := id H2
  obtain ⟨l5, p5, q5, r5⟩ := id H5
  obtain ⟨l9, p9, q9, r9⟩ := id H9
  obtain ⟨l19, p19, q19, r19⟩ := id H19
  go_wp2_with fail
  refine (heldSq rx ry (by omega) S9).mono ?_
  rintro e w21 ⟨rfl, hb⟩
  replace H2 := H2.below hb
  replace H5 := H5.below hb
  replace H9 := H9.below hb
  replace H19 := H19.below hb
  replace S5 := S5.below hb
  replace S9 := S9.below hb
  replace S19 := S19.below hb
  replace B := nxt B hb
  clear hb l2 p2 q2 r2 l5 p5 q5 r5 l9 p9 q9 r9 l19 p19 q19 r19
  obtain ⟨l2, p2, q2, r2⟩ := id H2
  obtain ⟨l5, p5, q5, r5⟩ := id H5
  obtain ⟨l9, p9, q9, r9⟩ := id H9
  obtain ⟨l19, p19, q19, r19⟩ := id H19
  go_wp2_with fail
  go_ret
  exact ⟨rfl, B⟩

theorem big (x y : Int) (A : Option Addr) (n ca : Nat) (w : World) (hn : 1048576 < n) (hm : n ≤ 9223372036854775807) :
    Calls Try.prog 6 #[.agg #[.int .i8 x, .int .i8 y, .slice A n ca]] w fun e w' => e = .returned (.bool true) ∧ Below w.heap.size w w' := by
  have B : Below w.heap.size w w := Below.refl _ _
  go_enter Try.func6, Try.ntmps6
  go_wp2_with fail
  refine (szSquare_big x y 1048576 A n ca _ (by omega) (by omega) (by omega) hm).mono ?_
  rintro e w1 ⟨rfl, hb⟩
  replace B := nxt (al B _) hb
  clear hb
  go_wp2_with fail
  go_ret
  exact ⟨rfl, B⟩

theorem walk (x y : Int) (A : Option Addr) (n ca : Nat) (c : Nat → Int) (w : World) (hX : -128 ≤ x ∧ x ≤ 127) (hY : -128 ≤ y ∧ y ≤ 127) (hc : ∀ j, -128 ≤ c j ∧ c j ≤ 127) (hn0 : n ≤ 9223372036854775807)
    (hr : Rd8 w w.heap.size A (4 * n) c) :
    Calls Try.prog 6 #[.agg #[.int .i8 x, .int .i8 y, .slice A n ca]] w fun e w' => e = .returned (.bool true) ∧ Below w.heap.size w w' := by
  by_cases hn : 1048576 < n
  · exact big x y A n ca  w hn hn0
  obtain ⟨rx, ry, z1, nn, ff, hnn, hS, hI⟩ := both x y n c  hX hY hc  (by omega)
  exact law x y A n ca c  rx ry z1 nn ff w (by omega) hnn hr (fun W g _ R => hS W g R) (fun W g _ R => hI W g R)

theorem lifted (os : Os) (started : os.Started) (H : Type) (enc : TypeId × Value → H) :
    ReturnsInHanded {} Try.checked os 6 .any (Rows.fnExactMirrorSquareSpec.pre6 enc Try.prog Try.f6 Rows.fnExactMirrorSquareRow.domain false) (Rows.fnExactMirrorSquareSpec.post enc Try.prog Try.f6 false true false false) := by
  refine returnsInHanded_of_change (C := Try.checked) own started (by kernel_rfl) Try.func6
    (ChangeSpec.witness6 (enc := enc) (C := Try.checked) false ⟨#[], #[.agg #[.int .i8 0, .int .i8 0, .slice none 0 0]], []⟩ 8 (by kernel_rfl) (by kernel_rfl) (by kernel_rfl) (by kernel_rfl)) ?_
  intro W base args ds gs before hval0 hW hcnd _
  have hval : ∀ (j : Nat) t v, Try.f6.params[j]? = some t → args[j]? = some v → Value.okWide Try.prog W .any base t v := hval0
  have hW' := hW
  obtain ⟨p, q, hA0, hV, rfl, hfz, hnd⟩ := hW
  have hA : DataW.TrodAll enc Try.prog W 0 (fun _ => true) true Try.f6.params.toList args.toList ds p := hA0
  rw [Try.params6] at hA hval
  obtain ⟨v0, d0, rfl, rfl, h0⟩ := trodAll_one hA
  obtain ⟨rfl, rfl⟩ := trodVars_none hV
  obtain ⟨x, y, A, n, ca, c, rfl, hX, hY, hn, hr, hc⟩ := open_square (hval 0 25 v0 rfl rfl) h0
  unfold maxLen at hn
  refine (walk x y A n ca c  W hX hY hc  hn hr).mono fun e W' ⟨he, hb⟩ => ?_
  subst he
  exact ⟨_, rfl, law_post (tb := 4) laidOut (by rw [Try.params6]; intro t ht; simp at ht; subst ht; exact ⟨by kernel_rfl, by decide +kernel⟩) (by kernel_rfl) Try.underlying4 rfl hW' rfl hb⟩

theorem proved : Rows.FnExactMirrorSquareSaid :=
  OpenClaim.holds_of_wide 6 Try.f6 rfl rfl rfl rfl rfl rfl rfl ⟨rfl, rfl, rfl, rfl, rfl⟩ rfl rfl rfl rfl rfl (by kernel_rfl) Try.func6 (by kernel_rfl)
    (of_decide_eq_true (by kernel_rfl)) (by unfold Func.isWrapper; rw [if_neg (of_decide_eq_false (by kernel_rfl))]; exact ⟨rfl, rfl⟩)
    (fun os started H enc _ => lifted os started H enc)
#print axioms proved
end Go.Proofs.Yteebkookoidheaa.mirrorSquare
