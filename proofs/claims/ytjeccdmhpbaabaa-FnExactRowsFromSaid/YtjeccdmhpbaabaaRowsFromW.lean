/-
  The walk of the law FnExactRowsFrom. Conditions stand at each.
-/
import Derived.Test.YtjeccdmhpbaabaaRows
import Derived.Test.YtjeccdmhpbaabaaNums
import Derived.Test.YtjeccdmhpbaabaaSetts
import Derived.Test.YtjeccdmhpbaabaaRowsFromB
import Derived.Deep.RegionHeld3
import Derived.Lib.SmallJoins
namespace Go.Proofs.Ytjeccdmhpbaabaa.rowsFrom
open Go Go.ChangeShapes Go.WideShapes Go.ChangeAt Go.RowKit
set_option linter.unusedVariables false
set_option linter.unusedSimpArgs false
set_option maxRecDepth 100000
set_option maxHeartbeats 2000000

theorem law (A0 : Option Addr) (n0 ca0 : Nat) (c0 d0 : Nat → Int) (k1 : Int) (k2 : Int) (z1 : Int) (z2 : Int) (w : World) (hn0 : n0 ≤ 1048576)
    (hr0 : RdS w w.heap.size A0 n0 c0 d0)
    (hS : ∀ (W : World) (G0 : Nat), w.heap.size ≤ W.heap.size → As W G0 n0 c0 d0 → 
      Calls Try.prog 68 #[.slice (some ⟨G0, 0, none⟩) n0 n0, .int .i64 k1, .int .i64 k2] W fun e w' => e = .returned (.tuple #[.int .i64 z1, .int .i64 z2]) ∧ Below W.heap.size W w')
    (hI : ∀ (W : World) (G0 : Nat), w.heap.size ≤ W.heap.size → As W G0 n0 c0 d0 → 
      Calls Try.prog 69 #[.slice (some ⟨G0, 0, none⟩) n0 n0, .int .i64 k1, .int .i64 k2] W fun e w' => e = .returned (.tuple #[.int .i64 z1, .int .i64 z2]) ∧ Below W.heap.size W w') :
    Calls Try.prog 19 #[.slice A0 n0 ca0, .int .i64 k1, .int .i64 k2] w fun e w' => e = .returned (.bool true) ∧ Below w.heap.size w w' := by
  have HS := Lib.hid hS
  have HI := Lib.hid hI
  have HR0 := Lib.hid hr0
  have hz0 : 0 ≤ 1048576 - (n0 : Int) := by omega
  have hy0 : 0 ≤ 1 + 2 * (n0 : Int) := by omega
  have B : Below w.heap.size w w := Below.refl _ _
  clear hS hI hr0
  go_enter Try.func19, Try.ntmps19
  have hrrz1 : (z1 != z1) = false := by simp
  have hrrz2 : (z2 != z2) = false := by simp
  go_wp2_with fail
  refine (szSettS_ok A0 n0 ca0 1048576 _ (by omega) (by omega) (by omega)).mono ?_
  rintro e w1 ⟨rfl, rfl⟩
  go_wp2_with fail
  refine (toSettS_any A0 n0 ca0 w.heap.size c0 d0 _ (by omega) B.size (HR0.out.below B)).mono ?_
  rintro e w2 ⟨ga0, rfl, hg, hb, Xa0⟩
  have bzga0 : w.heap.size ≤ ga0 := Nat.le_trans B.size hg
  replace B := nxt B hb
  clear hb
  clear hg
  go_wp2_with fail
  refine (HS.out _ ga0 B.size Xa0).mono ?_
  rintro e w3 ⟨rfl, hb⟩
  replace Xa0 := Xa0.below hb
  replace B := nxt B hb
  clear hb
  clear Xa0
  go_wp2_with fail
  refine (toSettS_any A0 n0 ca0 w.heap.size c0 d0 _ (by omega) B.size (HR0.out.below B)).mono ?_
  rintro e w4 ⟨gb0, rfl, hg, hb, Xb0⟩
  have bzgb0 : w.heap.size ≤ gb0 := Nat.le_trans B.size hg
  replace B := nxt B hb
  clear hb
  clear hg
  go_wp2_with fail
  refine (HI.out _ gb0 B.size Xb0).mono ?_
  rintro e w5 ⟨rfl, hb⟩
  replace Xb0 := Xb0.below hb
  replace B := nxt B hb
  clear hb
  go_wp2_with fail
  refine (toSettS_any A0 n0 ca0 w.heap.size c0 d0 _ (by omega) B.size (HR0.out.below B)).mono ?_
  rintro e w6 ⟨gc0, rfl, hg, hb, Xc0⟩
  have qgb0gc0 : gb0 < gc0 := Nat.lt_of_lt_of_le Xb0.1 hg
  have bzgc0 : w.heap.size ≤ gc0 := Nat.le_trans B.size hg
  replace Xb0 := Xb0.below hb
  replace B := nxt B hb
  clear hb
  clear hg
  go_wp2_with fail
  refine (eqSettS_any (some ⟨gb0, 0, none⟩) (some ⟨gc0, 0, none⟩) n0 n0 n0 n0 _ c0 d0 c0 d0 _ (by omega) (by omega) (Nat.le_refl _) Xb0.rd Xc0.rd ⟨rfl, fun _ _ => ⟨rfl, rfl⟩⟩).mono ?_
  rintro e w7 ⟨rfl, hb⟩
  replace Xb0 := Xb0.below hb
  replace Xc0 := Xc0.below hb
  replace B := nxt B hb
  clear hb
  clear Xc0
  go_wp2_with fail
  go_ret
  exact ⟨rfl, B⟩

theorem big0 (A0 : Option Addr) (n0 ca0 : Nat) (c0 d0 : Nat → Int) (k1 : Int) (k2 : Int) (w : World)  (hn : 1048576 < n0) (hm : n0 ≤ 9223372036854775807) :
    Calls Try.prog 19 #[.slice A0 n0 ca0, .int .i64 k1, .int .i64 k2] w fun e w' => e = .returned (.bool true) ∧ Below w.heap.size w w' := by
  go_enter Try.func19, Try.ntmps19
  go_wp2_with fail
  refine (szSettS_big A0 n0 ca0 1048576 _ (by omega) (by omega) (by omega) hm).mono ?_
  rintro e w1 ⟨rfl, rfl⟩
  go_wp2_with fail
  go_ret
  exact ⟨rfl, Below.refl _ _⟩

theorem walk (A0 : Option Addr) (n0 ca0 : Nat) (c0 d0 : Nat → Int) (k1 : Int) (k2 : Int) (w : World) (hm0 : n0 ≤ 9223372036854775807) (hc0 : ∀ j, -128 ≤ c0 j ∧ c0 j ≤ 127) (hd0 : ∀ j, -32768 ≤ d0 j ∧ d0 j ≤ 32767) (bk1 : (Lit.int .i64 k1).wf = true) (bk2 : (Lit.int .i64 k2).wf = true)
    (hr0 : RdS w w.heap.size A0 n0 c0 d0) :
    Calls Try.prog 19 #[.slice A0 n0 ca0, .int .i64 k1, .int .i64 k2] w fun e w' => e = .returned (.bool true) ∧ Below w.heap.size w w' := by
  by_cases hn0 : 1048576 < n0
  · exact big0 A0 n0 ca0 c0 d0 k1 k2 w  hn0 hm0
  obtain ⟨z1, z2, hS, hI⟩ := both n0 c0 d0 k1 k2 hc0 hd0 (by omega) bk1 bk2
  exact law A0 n0 ca0 c0 d0 k1 k2 z1 z2 w (by omega) hr0 (fun W G0 _ R0 => hS W G0 R0) (fun W G0 _ R0 => hI W G0 R0)

end Go.Proofs.Ytjeccdmhpbaabaa.rowsFrom
