/-
  FnExactSamePattern: at every two patterns SamePattern answers as its model, and writes into no argument. No condition.
-/
import Derived.Test.YteebkookoidheabRows
import Derived.Test.YteebkookoidheabPSame
import Derived.Test.YteebkookoidheabPat
import Derived.Deep.RegionHeld3
namespace Go.Proofs.Yteebkookoidheab.samePattern
open Go Go.ChangeShapes Go.WideShapes Go.ChangeAt Go.RowKit
set_option linter.unusedVariables false
set_option maxRecDepth 100000
set_option maxHeartbeats 2000000

theorem law (x y z x' y' z' : Int) (A B0 : Option Addr) (n m ca cb : Nat) (c d : Nat → Int) (r : Bool) (w : World) (hn : n ≤ 1048576) (hm : n + m ≤ 1048576)
    (hr : Rd8 w w.heap.size A (4 * n) c) (hs : Rd8 w w.heap.size B0 (4 * m) d)
    (hS : ∀ (W : World) (g g' : Nat), w.heap.size ≤ W.heap.size → g < W.heap.size → g' < W.heap.size → W.rowIs g 67 (4 * n) (fun j => .int .i8 (c j)) → W.rowIs g' 67 (4 * m) (fun j => .int .i8 (d j)) →
      Calls Try.prog 20 #[.agg #[.int .i8 x, .int .i8 y, .int .i8 z, .slice (some ⟨g, 0, none⟩) n n], .agg #[.int .i8 x', .int .i8 y', .int .i8 z', .slice (some ⟨g', 0, none⟩) m m]] W fun e w' => e = .returned (.bool r) ∧ Below W.heap.size W w')
    (hI : ∀ (W : World) (g g' : Nat), w.heap.size ≤ W.heap.size → g < W.heap.size → g' < W.heap.size → W.rowIs g 67 (4 * n) (fun j => .int .i8 (c j)) → W.rowIs g' 67 (4 * m) (fun j => .int .i8 (d j)) →
      Calls Try.prog 21 #[.agg #[.int .i8 x, .int .i8 y, .int .i8 z, .slice (some ⟨g, 0, none⟩) n n], .agg #[.int .i8 x', .int .i8 y', .int .i8 z', .slice (some ⟨g', 0, none⟩) m m]] W fun e w' => e = .returned (.bool r) ∧ Below W.heap.size W w') :
    Calls Try.prog 4 #[.agg #[.int .i8 x, .int .i8 y, .int .i8 z, .slice A n ca], .agg #[.int .i8 x', .int .i8 y', .int .i8 z', .slice B0 m cb]] w fun e w' => e = .returned (.bool true) ∧ Below w.heap.size w w' := by
  have HS := Lib.hid hS
  have HI := Lib.hid hI
  have hz0 : 0 ≤ 1048576 - (n : Int) := by omega
  have hz1 : 0 ≤ 1048576 - (n : Int) - (m : Int) := by omega
  have HR := Lib.hid hr
  have HRs := Lib.hid hs
  have B : Below w.heap.size w w := Below.refl _ _
  clear hS hI hr hs
  go_enter Try.func4, Try.ntmps4
  go_wp2_with fail
  refine (szPattern_ok x y z 1048576 A n ca _ (by omega) (by omega) (by omega)).mono ?_
  rintro e w1 ⟨rfl, hb⟩
  have H2 := ((Pt.new w x y z (.slice A n ca) 25).alloc (.cells #[.int .i8 x', .int .i8 y', .int .i8 z', .slice B0 m cb] 25)).below hb
  have H3 : Pt w1 (w.heap.size + 1) x' y' z' (.slice B0 m cb) := by
    have := (Pt.new (w.alloc (.cells #[.int .i8 x, .int .i8 y, .int .i8 z, .slice A n ca] 25)) x' y' z' (.slice B0 m cb) 25).below hb
    rwa [World.size_alloc] at this
  have B := nxt (al (al B _) _) hb
  clear hb
  obtain ⟨l2, p2, q2, u2, r2⟩ := id H2
  obtain ⟨l3, p3, q3, u3, r3⟩ := id H3
  go_wp2_with fail
  refine (szPattern_ok x' y' z' (1048576 - n) B0 m cb _ (by omega) (by omega) (by omega)).mono ?_
  rintro e w2 ⟨rfl, hb⟩
  replace H2 := (H2).below hb
  replace H3 := (H3).below hb
  replace B := nxt B hb
  clear hb l2 p2 q2 u2 r2 l3 p3 q3 u3 r3
  obtain ⟨l2, p2, q2, u2, r2⟩ := id H2
  obtain ⟨l3, p3, q3, u3, r3⟩ := id H3
  go_wp2_with fail
  have B := B.drew
  have H2 : Pt w2.drew w.heap.size x y z (.slice A n ca) := H2
  have H3 : Pt w2.drew (w.heap.size + 1) x' y' z' (.slice B0 m cb) := H3
  go_region_held3 (fun w' => w'.cell? ⟨w.heap.size, 0, none⟩ = some (.int .i8 x) ∧ w'.cell? ⟨w.heap.size, 1, none⟩ = some (.int .i8 y) ∧ w'.cell? ⟨w.heap.size, 2, none⟩ = some (.int .i8 z) ∧ w'.cell? ⟨w.heap.size, 3, none⟩ = some (.slice A n ca) ∧ w'.cell? ⟨w.heap.size + 1, 0, none⟩ = some (.int .i8 x') ∧ w'.cell? ⟨w.heap.size + 1, 1, none⟩ = some (.int .i8 y') ∧ w'.cell? ⟨w.heap.size + 1, 2, none⟩ = some (.int .i8 z') ∧ w'.cell? ⟨w.heap.size + 1, 3, none⟩ = some (.slice B0 m cb))
    (first | exact ⟨p2, q2, u2, r2, p3, q3, u3, r3⟩)
    (first
      | (go_at_call 17
         with_reducible refine (toPattern_any x y z A n ca w.heap.size c _ (by omega) B.size (HR.out.below B)).mono ?_
         rintro e w3 ⟨g1, rfl, hg1, hb, R1⟩
         replace H2 := (H2).below hb
         replace H3 := (H3).below hb
         replace B := nxt B hb
         clear hb l2 p2 q2 u2 r2 l3 p3 q3 u3 r3
         obtain ⟨l2, p2, q2, u2, r2⟩ := id H2
         obtain ⟨l3, p3, q3, u3, r3⟩ := id H3)
      | (go_at_call 17
         with_reducible refine (toPattern_any x' y' z' B0 m cb w.heap.size d _ (by omega) B.size (HRs.out.below B)).mono ?_
         rintro e w4 ⟨g2, rfl, hg2, hb, R2⟩
         replace H2 := (H2).below hb
         replace H3 := (H3).below hb
         replace R1 := rowNext0 R1 hb
         replace B := nxt B hb
         clear hb l2 p2 q2 u2 r2 l3 p3 q3 u3 r3
         obtain ⟨l2, p2, q2, u2, r2⟩ := id H2
         obtain ⟨l3, p3, q3, u3, r3⟩ := id H3)
      | (go_at_call 20
         with_reducible refine (HS.out _ g1 g2 B.size R1.lt R2.lt R1 R2).mono ?_
         rintro e w5 ⟨rfl, hb⟩
         replace H2 := (H2).below hb
         replace H3 := (H3).below hb
         replace B := nxt B hb
         clear hb l2 p2 q2 u2 r2 l3 p3 q3 u3 r3
         obtain ⟨l2, p2, q2, u2, r2⟩ := id H2
         obtain ⟨l3, p3, q3, u3, r3⟩ := id H3
         clear R1 R2 hg1 hg2))
  go_wp2_with fail
  refine (toPattern_any x y z A n ca w.heap.size c _ (by omega) B.size (HR.out.below B)).mono ?_
  rintro e w6 ⟨g7, rfl, hg7, hb, R7⟩
  replace H2 := (H2).below hb
  replace H3 := (H3).below hb
  replace B := nxt B hb
  clear hb l2 p2 q2 u2 r2 l3 p3 q3 u3 r3
  obtain ⟨l2, p2, q2, u2, r2⟩ := id H2
  obtain ⟨l3, p3, q3, u3, r3⟩ := id H3
  go_wp2_with fail
  have hB := al B (.cells #[.int .i8 x, .int .i8 y, .int .i8 z, .slice (some ⟨g7, 0, none⟩) n n] 30)
  refine (toPattern_any x' y' z' B0 m cb w.heap.size d _ (by omega) hB.size (HRs.out.below hB)).mono ?_
  rintro e w7 ⟨g8, rfl, hg8, hb, R8⟩
  clear hB
  have H7 := ((Pt.new w6 x y z (.slice (some ⟨g7, 0, none⟩) n n) 30)).below hb
  replace H2 := (H2.alloc _).below hb
  replace H3 := (H3.alloc _).below hb
  replace R7 := rowNext1 R7 hb
  replace B := nxt (al B _) hb
  clear hb l2 p2 q2 u2 r2 l3 p3 q3 u3 r3
  obtain ⟨l2, p2, q2, u2, r2⟩ := id H2
  obtain ⟨l3, p3, q3, u3, r3⟩ := id H3
  obtain ⟨l7, p7, q7, u7, r7⟩ := id H7
  go_wp2_with fail
  have hB := al B (.cells #[.int .i8 x', .int .i8 y', .int .i8 z', .slice (some ⟨g8, 0, none⟩) m m] 30)
  refine (HI.out _ g7 g8 hB.size (R7.alloc _).lt (R8.alloc _).lt (R7.alloc _) (R8.alloc _)).mono ?_
  rintro e w8 ⟨rfl, hb⟩
  clear hB
  have H8 := ((Pt.new w7 x' y' z' (.slice (some ⟨g8, 0, none⟩) m m) 30)).below hb
  replace H2 := (H2.alloc _).below hb
  replace H3 := (H3.alloc _).below hb
  replace H7 := (H7.alloc _).below hb
  replace R7 := rowNext1 R7 hb
  replace R8 := rowNext1 R8 hb
  replace B := nxt (al B _) hb
  clear hb l2 p2 q2 u2 r2 l3 p3 q3 u3 r3 l7 p7 q7 u7 r7
  obtain ⟨l2, p2, q2, u2, r2⟩ := id H2
  obtain ⟨l3, p3, q3, u3, r3⟩ := id H3
  obtain ⟨l7, p7, q7, u7, r7⟩ := id H7
  obtain ⟨l8, p8, q8, u8, r8⟩ := id H8
  have hrr : (r != r) = false := by simp
  go_wp2_with fail
  replace H2 : Pt w8.drew w.heap.size x y z (.slice A n ca) := H2
  replace H3 : Pt w8.drew (w.heap.size + 1) x' y' z' (.slice B0 m cb) := H3
  replace H7 : Pt w8.drew w6.heap.size x y z (.slice (some ⟨g7, 0, none⟩) n n) := H7
  replace H8 : Pt w8.drew w7.heap.size x' y' z' (.slice (some ⟨g8, 0, none⟩) m m) := H8
  replace R7 : w8.drew.rowIs g7 67 (4 * n) (fun j => .int .i8 (c j)) := R7
  replace R8 : w8.drew.rowIs g8 67 (4 * m) (fun j => .int .i8 (d j)) := R8
  replace B := B.drew
  go_region_held3 (fun w' => w'.cell? ⟨w6.heap.size, 0, none⟩ = some (.int .i8 x) ∧ w'.cell? ⟨w6.heap.size, 1, none⟩ = some (.int .i8 y) ∧ w'.cell? ⟨w6.heap.size, 2, none⟩ = some (.int .i8 z) ∧ w'.cell? ⟨w6.heap.size, 3, none⟩ = some (.slice (some ⟨g7, 0, none⟩) n n) ∧ w'.cell? ⟨w.heap.size, 0, none⟩ = some (.int .i8 x) ∧ w'.cell? ⟨w.heap.size, 1, none⟩ = some (.int .i8 y) ∧ w'.cell? ⟨w.heap.size, 2, none⟩ = some (.int .i8 z) ∧ w'.cell? ⟨w.heap.size, 3, none⟩ = some (.slice A n ca))
    (first | exact ⟨p7, q7, u7, r7, p2, q2, u2, r2⟩)
    (first
      | (go_at_call 17
         with_reducible refine (toPattern_any x y z A n ca w.heap.size c _ (by omega) B.size (HR.out.below B)).mono ?_
         rintro e w9 ⟨g9, rfl, hg9, hb, R9⟩
         replace H2 := (H2).below hb
         replace H3 := (H3).below hb
         replace H7 := (H7).below hb
         replace H8 := (H8).below hb
         replace R7 := rowNext0 R7 hb
         replace R8 := rowNext0 R8 hb
         replace B := nxt B hb
         clear hb l2 p2 q2 u2 r2 l3 p3 q3 u3 r3 l7 p7 q7 u7 r7 l8 p8 q8 u8 r8
         obtain ⟨l2, p2, q2, u2, r2⟩ := id H2
         obtain ⟨l3, p3, q3, u3, r3⟩ := id H3
         obtain ⟨l7, p7, q7, u7, r7⟩ := id H7
         obtain ⟨l8, p8, q8, u8, r8⟩ := id H8)
      | (go_at_call 19
         with_reducible refine (eqPattern_yes x y z (some ⟨g7, 0, none⟩) (some ⟨g9, 0, none⟩) n n n n w9.heap.size c c _ (by omega) (by omega) (Nat.le_refl _) ((Own8.of_row R7).rd R7.lt) ((Own8.of_row R9).rd R9.lt) ⟨rfl, fun _ _ => rfl⟩).mono ?_
         rintro e w10 ⟨rfl, hb⟩
         replace H2 := (H2).below hb
         replace H3 := (H3).below hb
         replace H7 := (H7).below hb
         replace H8 := (H8).below hb
         replace R7 := rowNext0 R7 hb
         replace R8 := rowNext0 R8 hb
         replace B := nxt B hb
         clear hb l2 p2 q2 u2 r2 l3 p3 q3 u3 r3 l7 p7 q7 u7 r7 l8 p8 q8 u8 r8
         obtain ⟨l2, p2, q2, u2, r2⟩ := id H2
         obtain ⟨l3, p3, q3, u3, r3⟩ := id H3
         obtain ⟨l7, p7, q7, u7, r7⟩ := id H7
         obtain ⟨l8, p8, q8, u8, r8⟩ := id H8
         clear R9 hg9))
  go_wp2_with fail
  replace H2 : Pt w10.drew w.heap.size x y z (.slice A n ca) := H2
  replace H3 : Pt w10.drew (w.heap.size + 1) x' y' z' (.slice B0 m cb) := H3
  replace H7 : Pt w10.drew w6.heap.size x y z (.slice (some ⟨g7, 0, none⟩) n n) := H7
  replace H8 : Pt w10.drew w7.heap.size x' y' z' (.slice (some ⟨g8, 0, none⟩) m m) := H8
  replace R7 : w10.drew.rowIs g7 67 (4 * n) (fun j => .int .i8 (c j)) := R7
  replace R8 : w10.drew.rowIs g8 67 (4 * m) (fun j => .int .i8 (d j)) := R8
  replace B := B.drew
  go_region_held3 (fun w' => w'.cell? ⟨w7.heap.size, 0, none⟩ = some (.int .i8 x') ∧ w'.cell? ⟨w7.heap.size, 1, none⟩ = some (.int .i8 y') ∧ w'.cell? ⟨w7.heap.size, 2, none⟩ = some (.int .i8 z') ∧ w'.cell? ⟨w7.heap.size, 3, none⟩ = some (.slice (some ⟨g8, 0, none⟩) m m) ∧ w'.cell? ⟨w.heap.size + 1, 0, none⟩ = some (.int .i8 x') ∧ w'.cell? ⟨w.heap.size + 1, 1, none⟩ = some (.int .i8 y') ∧ w'.cell? ⟨w.heap.size + 1, 2, none⟩ = some (.int .i8 z') ∧ w'.cell? ⟨w.heap.size + 1, 3, none⟩ = some (.slice B0 m cb))
    (first | exact ⟨p8, q8, u8, r8, p3, q3, u3, r3⟩)
    (first
      | (go_at_call 17
         with_reducible refine (toPattern_any x' y' z' B0 m cb w.heap.size d _ (by omega) B.size (HRs.out.below B)).mono ?_
         rintro e w11 ⟨g11, rfl, hg11, hb, R11⟩
         replace H2 := (H2).below hb
         replace H3 := (H3).below hb
         replace H7 := (H7).below hb
         replace H8 := (H8).below hb
         replace R7 := rowNext0 R7 hb
         replace R8 := rowNext0 R8 hb
         replace B := nxt B hb
         clear hb l2 p2 q2 u2 r2 l3 p3 q3 u3 r3 l7 p7 q7 u7 r7 l8 p8 q8 u8 r8
         obtain ⟨l2, p2, q2, u2, r2⟩ := id H2
         obtain ⟨l3, p3, q3, u3, r3⟩ := id H3
         obtain ⟨l7, p7, q7, u7, r7⟩ := id H7
         obtain ⟨l8, p8, q8, u8, r8⟩ := id H8)
      | (go_at_call 19
         with_reducible refine (eqPattern_yes x' y' z' (some ⟨g8, 0, none⟩) (some ⟨g11, 0, none⟩) m m m m w11.heap.size d d _ (by omega) (by omega) (Nat.le_refl _) ((Own8.of_row R8).rd R8.lt) ((Own8.of_row R11).rd R11.lt) ⟨rfl, fun _ _ => rfl⟩).mono ?_
         rintro e w12 ⟨rfl, hb⟩
         replace H2 := (H2).below hb
         replace H3 := (H3).below hb
         replace H7 := (H7).below hb
         replace H8 := (H8).below hb
         replace R7 := rowNext0 R7 hb
         replace R8 := rowNext0 R8 hb
         replace B := nxt B hb
         clear hb l2 p2 q2 u2 r2 l3 p3 q3 u3 r3 l7 p7 q7 u7 r7 l8 p8 q8 u8 r8
         obtain ⟨l2, p2, q2, u2, r2⟩ := id H2
         obtain ⟨l3, p3, q3, u3, r3⟩ := id H3
         obtain ⟨l7, p7, q7, u7, r7⟩ := id H7
         obtain ⟨l8, p8, q8, u8, r8⟩ := id H8
         clear R11 hg11))
  go_wp2_with fail
  go_ret
  exact ⟨rfl, B⟩

theorem big1 (x y z x' y' z' : Int) (A B0 : Option Addr) (n m ca cb : Nat) (w : World) (hn : 1048576 < n) (hm : n ≤ 9223372036854775807) :
    Calls Try.prog 4 #[.agg #[.int .i8 x, .int .i8 y, .int .i8 z, .slice A n ca], .agg #[.int .i8 x', .int .i8 y', .int .i8 z', .slice B0 m cb]] w fun e w' => e = .returned (.bool true) ∧ Below w.heap.size w w' := by
  have B : Below w.heap.size w w := Below.refl _ _
  go_enter Try.func4, Try.ntmps4
  go_wp2_with fail
  refine (szPattern_big x y z 1048576 A n ca _ (by omega) (by omega) (by omega) hm).mono ?_
  rintro e w1 ⟨rfl, hb⟩
  replace B := nxt (al (al B _) _) hb
  clear hb
  go_wp2_with fail
  go_ret
  exact ⟨rfl, B⟩

theorem big2 (x y z x' y' z' : Int) (A B0 : Option Addr) (n m ca cb : Nat) (w : World) (hn : n ≤ 1048576) (hnm : 1048576 < n + m) (hm : m ≤ 9223372036854775807) :
    Calls Try.prog 4 #[.agg #[.int .i8 x, .int .i8 y, .int .i8 z, .slice A n ca], .agg #[.int .i8 x', .int .i8 y', .int .i8 z', .slice B0 m cb]] w fun e w' => e = .returned (.bool true) ∧ Below w.heap.size w w' := by
  have B : Below w.heap.size w w := Below.refl _ _
  have hz0 : 0 ≤ 1048576 - (n : Int) := by omega
  go_enter Try.func4, Try.ntmps4
  go_wp2_with fail
  refine (szPattern_ok x y z 1048576 A n ca _ (by omega) (by omega) (by omega)).mono ?_
  rintro e w1 ⟨rfl, hb⟩
  have H3 : Pt w1 (w.heap.size + 1) x' y' z' (.slice B0 m cb) := by
    have := (Pt.new (w.alloc (.cells #[.int .i8 x, .int .i8 y, .int .i8 z, .slice A n ca] 25)) x' y' z' (.slice B0 m cb) 25).below hb
    rwa [World.size_alloc] at this
  replace B := nxt (al (al B _) _) hb
  clear hb
  obtain ⟨l3, p3, q3, u3, r3⟩ := id H3
  go_wp2_with fail
  refine (szPattern_big x' y' z' (1048576 - n) B0 m cb _ (by omega) (by omega) (by omega) hm).mono ?_
  rintro e w2 ⟨rfl, hb⟩
  replace B := nxt B hb
  clear hb
  go_wp2_with fail
  go_ret
  exact ⟨rfl, B⟩

theorem walk (x y z x' y' z' : Int) (A B0 : Option Addr) (n m ca cb : Nat) (c d : Nat → Int) (w : World) (hn0 : n ≤ 9223372036854775807) (hm0 : m ≤ 9223372036854775807)
    (hr : Rd8 w w.heap.size A (4 * n) c) (hs : Rd8 w w.heap.size B0 (4 * m) d) :
    Calls Try.prog 4 #[.agg #[.int .i8 x, .int .i8 y, .int .i8 z, .slice A n ca], .agg #[.int .i8 x', .int .i8 y', .int .i8 z', .slice B0 m cb]] w fun e w' => e = .returned (.bool true) ∧ Below w.heap.size w w' := by
  by_cases hn : 1048576 < n
  · exact big1 x y z x' y' z' A B0 n m ca cb w hn hn0
  by_cases hm : 1048576 < n + m
  · exact big2 x y z x' y' z' A B0 n m ca cb w (by omega) hm hm0
  by_cases hx : x = x'
  · subst hx
    by_cases hy : y = y'
    · subst hy
      by_cases hz : z = z'
      · subst hz
        by_cases hnm : n = m
        · subst hnm
          by_cases he : EqTo c d (4 * n)
          · exact law x y z x y z A B0 n n ca cb c d true w (by omega) (by omega) hr hs
              (fun W g g' _ hg hg' R R' => specP_of x y z _ _ n n n n true W fun W' hB => slabsEq_yes _ _ n n n W.heap.size c d W' (by omega) hB.size (((Own8.of_row R).rd hg).below hB) (((Own8.of_row R').rd hg').below hB) he)
              (fun W g g' _ hg hg' R R' => implP_of x y z _ _ n n n n true W fun W' hB => sliceEq_yes _ _ n n n W.heap.size c d W' (by omega) hB.size (((Own8.of_row R).rd hg).below hB) (((Own8.of_row R').rd hg').below hB) he)
          · exact law x y z x y z A B0 n n ca cb c d false w (by omega) (by omega) hr hs
              (fun W g g' _ hg hg' R R' => specP_of x y z _ _ n n n n false W fun W' hB => slabsEq_no _ _ n n n W.heap.size c d W' (by omega) hB.size (((Own8.of_row R).rd hg).below hB) (((Own8.of_row R').rd hg').below hB) he)
              (fun W g g' _ hg hg' R R' => implP_of x y z _ _ n n n n false W fun W' hB => sliceEq_no _ _ n n n W.heap.size c d W' (by omega) hB.size (((Own8.of_row R).rd hg).below hB) (((Own8.of_row R').rd hg').below hB) he)
        · exact law x y z x y z A B0 n m ca cb c d false w (by omega) (by omega) hr hs
            (fun W g g' _ _ _ _ _ => specP_of x y z _ _ n m n m false W fun W' _ => slabsEq_len _ _ n m n m W' (by omega) (by omega) hnm)
            (fun W g g' _ _ _ _ _ => implP_of x y z _ _ n m n m false W fun W' _ => sliceEq_len _ _ n m n m W' (by omega) (by omega) hnm)
      · exact law x y z x y z' A B0 n m ca cb c d false w (by omega) (by omega) hr hs
          (fun W g g' _ _ _ _ _ => specP_z x y z z' _ _ n m n m W hz)
          (fun W g g' _ _ _ _ _ => implP_z x y z z' _ _ n m n m W hz)
    · exact law x y z x y' z' A B0 n m ca cb c d false w (by omega) (by omega) hr hs
        (fun W g g' _ _ _ _ _ => specP_y x y z y' z' _ _ n m n m W hy)
        (fun W g g' _ _ _ _ _ => implP_y x y z y' z' _ _ n m n m W hy)
  · exact law x y z x' y' z' A B0 n m ca cb c d false w (by omega) (by omega) hr hs
      (fun W g g' _ _ _ _ _ => specP_x x y z x' y' z' _ _ n m n m W hx)
      (fun W g g' _ _ _ _ _ => implP_x x y z x' y' z' _ _ n m n m W hx)

theorem lifted (os : Os) (started : os.Started) (H : Type) (enc : TypeId × Value → H) :
    ReturnsInHanded {} Try.checked os 4 .any (Rows.fnExactSamePatternSpec.pre6 enc Try.prog Try.f4 Rows.fnExactSamePatternRow.domain false) (Rows.fnExactSamePatternSpec.post enc Try.prog Try.f4 false true false false) := by
  refine returnsInHanded_of_change (C := Try.checked) own started (by kernel_rfl) Try.func4
    (ChangeSpec.witness6 (enc := enc) (C := Try.checked) false ⟨#[], #[.agg #[.int .i8 0, .int .i8 0, .int .i8 0, .slice none 0 0], .agg #[.int .i8 0, .int .i8 0, .int .i8 0, .slice none 0 0]], []⟩ 8 (by kernel_rfl) (by kernel_rfl) (by kernel_rfl) (by kernel_rfl)) ?_
  intro W base args ds gs before hval0 hW hcnd _
  have hval : ∀ (j : Nat) t v, Try.f4.params[j]? = some t → args[j]? = some v → Value.okWide Try.prog W .any base t v := hval0
  have hW' := hW
  obtain ⟨p, q, hA0, hV, rfl, hfz, hnd⟩ := hW
  have hA : DataW.TrodAll enc Try.prog W 0 (fun _ => true) true Try.f4.params.toList args.toList ds p := hA0
  rw [Try.params4] at hA hval
  obtain ⟨v0, v1, d0, d1, p0, p1, rfl, rfl, rfl, h0, h1⟩ := trodAll_two hA
  obtain ⟨rfl, rfl⟩ := trodVars_none hV
  obtain ⟨x, y, z, A, n, ca, c, rfl, _, _, _, hn, hr, _⟩ := open_pattern (hval 0 25 v0 rfl rfl) h0
  obtain ⟨x', y', z', B0, m, cb, d, rfl, _, _, _, hm, hs, _⟩ := open_pattern (hval 1 25 v1 rfl rfl) h1
  unfold maxLen at hn hm
  refine (walk x y z x' y' z' A B0 n m ca cb c d W hn hm hr hs).mono fun e W' ⟨he, hb⟩ => ?_
  subst he
  exact ⟨_, rfl, law_post (tb := 4) laidOut (by rw [Try.params4]; intro t ht; simp at ht; subst ht; exact ⟨by kernel_rfl, by decide +kernel⟩) (by kernel_rfl) Try.underlying4 rfl hW' rfl hb⟩

theorem proved : Rows.FnExactSamePatternSaid :=
  OpenClaim.holds_of_wide 4 Try.f4 rfl rfl rfl rfl rfl rfl rfl ⟨rfl, rfl, rfl, rfl, rfl⟩ rfl rfl rfl rfl rfl (by kernel_rfl) Try.func4 (by kernel_rfl)
    (of_decide_eq_true (by kernel_rfl)) (by unfold Func.isWrapper; rw [if_neg (of_decide_eq_false (by kernel_rfl))]; exact ⟨rfl, rfl⟩)
    (fun os started H enc _ => lifted os started H enc)
#print axioms proved
end Go.Proofs.Yteebkookoidheab.samePattern
