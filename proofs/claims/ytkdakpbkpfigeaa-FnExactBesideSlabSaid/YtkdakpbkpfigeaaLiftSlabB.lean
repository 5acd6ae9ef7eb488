/-
  Both sides of LiftSlab answer the same. Conditions stand at each.
-/
import Derived.Test.YtkdakpbkpfigeaaRows
import Derived.Test.YtkdakpbkpfigeaaTold
import Derived.Test.YtkdakpbkpfigeaaIn
import Derived.Test.YtkdakpbkpfigeaaLiftS
import Derived.Test.YtkdakpbkpfigeaaSlabs
import Derived.Test.YtkdakpbkpfigeaaValidI
import Derived.Test.YtkdakpbkpfigeaaRet
import Derived.Deep.RegionHeld3
namespace Go.Proofs.Ytkdakpbkpfigeaa.liftSlab
open Go Go.ChangeShapes Go.WideShapes Go.ChangeAt Go.RowKit
set_option linter.unusedVariables false
set_option linter.unusedSimpArgs false
set_option maxRecDepth 100000
set_option maxHeartbeats 2000000

theorem index_any (X Y k : Int) (bq g n : Nat) (w : World) (hm : n ≤ 1048576) (hq : Sq w bq X Y (.slice (some ⟨g, 0, none⟩) n n)) :
    Calls Try.prog 74 #[.pointer (some ⟨bq, 0, none⟩), .int .i64 k] w fun e w' => e = .returned (.bool (decide (0 ≤ k ∧ k < n))) ∧ Below w.heap.size w w' := by
  obtain ⟨lq, pq, qq, rq⟩ := hq
  have w1 : IntKind.i64.wrap ((n : Int) - 1) = (n : Int) - 1 := IntWalk.i64_in _ (by omega)
  by_cases h : 0 ≤ k ∧ k < n
  · rw [decide_eq_true h]
    have HI := fun W => Lib.hid (in_yes k 0 ((n : Int) - 1) W h.1 (by omega))
    clear h
    go_enter Try.func74, Try.ntmps74
    go_wp2_with fail
    refine (HI _).out.mono ?_
    rintro e w' ⟨rfl, rfl⟩
    go_wp2_with fail
    go_ret
    exact ⟨rfl, Below.refl _ _⟩
  · rw [decide_eq_false h]
    have HI := fun W => Lib.hid (in_no k 0 ((n : Int) - 1) W (by omega))
    clear h
    go_enter Try.func74, Try.ntmps74
    go_wp2_with fail
    refine (HI _).out.mono ?_
    rintro e w' ⟨rfl, rfl⟩
    go_wp2_with fail
    go_ret
    exact ⟨rfl, Below.refl _ _⟩

theorem keep5 {W W' : World} {bq g k : Nat} {q x0 x1 x2 x3 : Value} (h : W.cell? ⟨bq, 2, none⟩ = some q ∧ W.cell? ⟨g, k * 4, none⟩ = some x0 ∧ W.cell? ⟨g, k * 4 + 1, none⟩ = some x1 ∧ W.cell? ⟨g, k * 4 + 2, none⟩ = some x2 ∧ W.cell? ⟨g, k * 4 + 3, none⟩ = some x3) (e1 : W'.heap[bq]? = W.heap[bq]?) (e2 : W'.heap[g]? = W.heap[g]?) :
    W'.cell? ⟨bq, 2, none⟩ = some q ∧ W'.cell? ⟨g, k * 4, none⟩ = some x0 ∧ W'.cell? ⟨g, k * 4 + 1, none⟩ = some x1 ∧ W'.cell? ⟨g, k * 4 + 2, none⟩ = some x2 ∧ W'.cell? ⟨g, k * 4 + 3, none⟩ = some x3 := by
  obtain ⟨a0, a1, a2, a3, a4⟩ := h
  exact ⟨(World.cell?_of_block (w := W) e1).trans a0, (World.cell?_of_block (w := W) e2).trans a1, (World.cell?_of_block (w := W) e2).trans a2, (World.cell?_of_block (w := W) e2).trans a3, (World.cell?_of_block (w := W) e2).trans a4⟩

theorem keep7 {W W' : World} {bq g k : Nat} {q0 q1 q x0 x1 x2 x3 : Value} (h : W.cell? ⟨bq, 0, none⟩ = some q0 ∧ W.cell? ⟨bq, 1, none⟩ = some q1 ∧ W.cell? ⟨bq, 2, none⟩ = some q ∧ W.cell? ⟨g, k * 4, none⟩ = some x0 ∧ W.cell? ⟨g, k * 4 + 1, none⟩ = some x1 ∧ W.cell? ⟨g, k * 4 + 2, none⟩ = some x2 ∧ W.cell? ⟨g, k * 4 + 3, none⟩ = some x3) (e1 : W'.heap[bq]? = W.heap[bq]?) (e2 : W'.heap[g]? = W.heap[g]?) :
    W'.cell? ⟨bq, 0, none⟩ = some q0 ∧ W'.cell? ⟨bq, 1, none⟩ = some q1 ∧ W'.cell? ⟨bq, 2, none⟩ = some q ∧ W'.cell? ⟨g, k * 4, none⟩ = some x0 ∧ W'.cell? ⟨g, k * 4 + 1, none⟩ = some x1 ∧ W'.cell? ⟨g, k * 4 + 2, none⟩ = some x2 ∧ W'.cell? ⟨g, k * 4 + 3, none⟩ = some x3 := by
  obtain ⟨a0, a1, h⟩ := h
  exact ⟨(World.cell?_of_block (w := W) e1).trans a0, (World.cell?_of_block (w := W) e1).trans a1, keep5 h e1 e2⟩

theorem hasSlab_any (X Y k : Int) (A : Option Addr) (n cap : Nat) (w : World) (hm : n ≤ 1048576) :
    Calls Try.prog 76 #[.agg #[.int .i8 X, .int .i8 Y, .slice A n cap], .int .i64 k] w fun e w' => e = .returned (.bool (decide (0 ≤ k ∧ k < n))) ∧ Below w.heap.size w w' := by
  have wn : IntKind.i64.wrap (n : Int) = (n : Int) := IntWalk.i64_in _ (by omega)
  by_cases h0 : 0 ≤ k
  · have d0 : decide (0 ≤ k) = true := decide_eq_true h0
    by_cases h1 : k < (n : Int)
    · have d1 : decide (k < (n : Int)) = true := decide_eq_true h1
      rw [decide_eq_true (show 0 ≤ k ∧ k < (n : Int) from ⟨h0, h1⟩)]
      clear h1
      go_enter Try.func76, Try.ntmps76
      go_wp2
      go_ret
      exact ⟨rfl, al (Below.refl _ _) _⟩
    · have d1 : decide (k < (n : Int)) = false := decide_eq_false h1
      rw [decide_eq_false (show ¬ (0 ≤ k ∧ k < (n : Int)) from fun h => h1 h.2)]
      clear h1
      go_enter Try.func76, Try.ntmps76
      go_wp2
      go_ret
      exact ⟨rfl, al (Below.refl _ _) _⟩
  · have d0 : decide (0 ≤ k) = false := decide_eq_false h0
    rw [decide_eq_false (show ¬ (0 ≤ k ∧ k < (n : Int)) from fun h => h0 h.1)]
    clear h0
    go_enter Try.func76, Try.ntmps76
    go_wp2
    go_ret
    exact ⟨rfl, al (Below.refl _ _) _⟩

end Go.Proofs.Ytkdakpbkpfigeaa.liftSlab
