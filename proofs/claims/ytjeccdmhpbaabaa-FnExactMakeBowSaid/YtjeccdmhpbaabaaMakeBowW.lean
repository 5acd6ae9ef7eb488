/-
  The walk of the law FnExactMakeBow. Conditions stand at each.
-/
import Derived.Test.YtjeccdmhpbaabaaRows
import Derived.Test.YtjeccdmhpbaabaaNums
import Derived.Test.YtjeccdmhpbaabaaMakeBowB
import Derived.Deep.RegionHeld3
import Derived.Lib.SmallJoins
namespace Go.Proofs.Ytjeccdmhpbaabaa.makeBow
open Go Go.ChangeShapes Go.WideShapes Go.ChangeAt Go.RowKit
set_option linter.unusedVariables false
set_option linter.unusedSimpArgs false
set_option maxRecDepth 100000
set_option maxHeartbeats 2000000

theorem law (k0 : Int) (k1 : Int) (nn : Nat) (ff : Nat → Int) (z1 : Int) (w : World)  (hnn : nn ≤ 1000)
    
    (hS : ∀ (W : World), w.heap.size ≤ W.heap.size → 
      Calls Try.prog 33 #[.int .i64 k0, .int .i64 k1] W fun e w' => Below W.heap.size W w' ∧ ∃ v, e = .returned (.tuple #[v, .int .i64 z1]) ∧ HasSlice .i64 1 w' W.heap.size v nn ff)
    (hI : ∀ (W : World), w.heap.size ≤ W.heap.size → 
      Calls Try.prog 34 #[.int .i64 k0, .int .i64 k1] W fun e w' => Below W.heap.size W w' ∧ ∃ v, e = .returned (.tuple #[v, .int .i64 z1]) ∧ HasSlice .i64 1 w' W.heap.size v nn ff) :
    Calls Try.prog 5 #[.int .i64 k0, .int .i64 k1] w fun e w' => e = .returned (.bool true) ∧ Below w.heap.size w w' := by
  have HS := Lib.hid hS
  have HI := Lib.hid hI
  have B : Below w.heap.size w w := Below.refl _ _
  clear hS hI 
  go_enter Try.func5, Try.ntmps5
  have hrrz1 : (z1 != z1) = false := by simp
  go_wp2_with fail
  refine (HS.out _ B.size ).mono ?_
  rintro e w1 ⟨hb, v5, rfl, A5, g5, cap5, S5⟩
  obtain rfl := S5.1
  have bzg5 : 0 < nn → w.heap.size ≤ g5 := fun h => Nat.le_trans B.size (S5.2.1 h).2.1
  replace B := nxt B hb
  clear hb
  go_wp2_with fail
  refine (HI.out _ B.size ).mono ?_
  rintro e w2 ⟨hb, v9, rfl, A9, g9, cap9, S9⟩
  obtain rfl := S9.1
  have qg5g9 : 0 < nn → g5 < g9 := fun h => Nat.lt_of_lt_of_le (S5.2.1 h).2.2 (S9.2.1 h).2.1
  have bzg9 : 0 < nn → w.heap.size ≤ g9 := fun h => Nat.le_trans B.size (S9.2.1 h).2.1
  replace S5 := S5.below hb
  replace B := nxt B hb
  clear hb
  go_wp2_with fail
  refine (eqInt64S_any A9 A5 nn nn cap9 cap5 _ ff ff _ (by omega) (by omega) (Nat.le_refl _) (S9.rdN) (S5.rdN) ⟨rfl, fun _ _ => rfl⟩).mono ?_
  rintro e w3 ⟨rfl, hb⟩
  replace S5 := S5.below hb
  replace S9 := S9.below hb
  replace B := nxt B hb
  clear hb
  go_wp2_with fail
  have hk9 : 0 ≤ 1 + (nn : Int) := by omega
  have hkk : (1 + (nn : Int) != 1 + (nn : Int)) = false := by simp
  refine (markInt64S_any A9 g9 0 nn cap9 ff 1 _ (by omega) (by omega) (by omega) (fun h => (S9.2.1 h).1) S9.own).mono ?_
  rintro e w4 ⟨rfl, hgr, ho⟩
  replace S5 := S5.kept hgr.size (fun h => blockG hgr (S5.2.1 h).2.2 (fun hm => by have := (qg5g9 h); omega))
  replace S9 := S9.marked hgr.size (by simpa using ho)
  replace B := below_rowOf B hgr B.size bzg9
  clear hgr ho
  go_wp2_with fail
  refine (heldInt64S_any A9 g9 0 nn cap9 1 _ (by omega) (by omega) (by omega) (fun h => (S9.2.1 h).1) S9.own).mono ?_
  rintro e w5 ⟨rfl, rfl⟩
  go_wp2_with fail
  refine (HI.out _ B.size ).mono ?_
  rintro e w6 ⟨hb, v19, rfl, A19, g19, cap19, S19⟩
  obtain rfl := S19.1
  have qg5g19 : 0 < nn → g5 < g19 := fun h => Nat.lt_of_lt_of_le (S5.2.1 h).2.2 (S19.2.1 h).2.1
  have qg9g19 : 0 < nn → g9 < g19 := fun h => Nat.lt_of_lt_of_le (S9.2.1 h).2.2 (S19.2.1 h).2.1
  have bzg19 : 0 < nn → w.heap.size ≤ g19 := fun h => Nat.le_trans B.size (S19.2.1 h).2.1
  replace S5 := S5.below hb
  replace S9 := S9.below hb
  replace B := nxt B hb
  clear hb
  go_wp2_with fail
  refine (eqInt64S_any A19 A5 nn nn cap19 cap5 _ ff ff _ (by omega) (by omega) (Nat.le_refl _) (S19.rdN) (S5.rdN) ⟨rfl, fun _ _ => rfl⟩).mono ?_
  rintro e w7 ⟨rfl, hb⟩
  replace S5 := S5.below hb
  replace S9 := S9.below hb
  replace S19 := S19.below hb
  replace B := nxt B hb
  clear hb
  go_wp2_with fail
  refine (heldInt64S_any A9 g9 0 nn cap9 1 _ (by omega) (by omega) (by omega) (fun h => (S9.2.1 h).1) S9.own).mono ?_
  rintro e w8 ⟨rfl, rfl⟩
  go_wp2_with fail
  go_ret
  exact ⟨rfl, B⟩

theorem walk (k0 : Int) (k1 : Int) (w : World) (bk0 : (Lit.int .i64 k0).wf = true) (bk1 : (Lit.int .i64 k1).wf = true)
     :
    Calls Try.prog 5 #[.int .i64 k0, .int .i64 k1] w fun e w' => e = .returned (.bool true) ∧ Below w.heap.size w w' := by
  obtain ⟨nn, ff, z1, hnn, hS, hI⟩ := both k0 k1 bk0 bk1
  exact law k0 k1 nn ff z1 w  hnn  (fun W  _  => hS W  ) (fun W  _  => hI W  )

end Go.Proofs.Ytjeccdmhpbaabaa.makeBow
