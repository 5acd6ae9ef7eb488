/-
  Contracts of spec.l01Before, cmp.Compare at int8, cmp.Or at two ints, and impl.comparePlaces. Conditions stand at each.
-/
import Derived.Test.YtmkcdelfgaogaaaDoorRows
import Derived.Test.YtmkcdelfgaogaaaDoorLies
namespace Go.Proofs.YtmkcdelfgaogaaaDoor
open Go Go.ChangeShapes Go.WideShapes Go.ChangeAt Go.RowKit
set_option linter.unusedVariables false
set_option linter.unusedSimpArgs false
set_option maxRecDepth 100000
set_option maxHeartbeats 2000000

theorem bef1 (x y z u x' y' z' u' : Int) (w : World) (h : y < y') :
    Calls Tryd.prog 70 #[.agg #[.int .i8 x, .int .i8 y, .int .i8 z, .int .i8 u], .agg #[.int .i8 x', .int .i8 y', .int .i8 z', .int .i8 u']] w fun e w' => e = .returned (.bool true) ∧ Below w.heap.size w w' := by
  go_enter Tryd.func70, Tryd.ntmps70
  go_wp2
  go_ret
  refine ⟨rfl, ?_⟩
  (repeat (first | exact Below.refl _ _ | apply Below.drew | refine below_drewN' ?_ _ | refine Below.setCell ?_ (by first | (simp; done) | (simp; omega)) _ | refine Below.alloc ?_ (by first | (simp; done) | (simp; omega)) _))
theorem bef2 (x y z u x' y' z' u' : Int) (w : World) (h : y' < y) :
    Calls Tryd.prog 70 #[.agg #[.int .i8 x, .int .i8 y, .int .i8 z, .int .i8 u], .agg #[.int .i8 x', .int .i8 y', .int .i8 z', .int .i8 u']] w fun e w' => e = .returned (.bool false) ∧ Below w.heap.size w w' := by
  have d1 : decide (y < y') = false := by simp; omega
  have d2 : (y == y') = false := by simp; omega
  go_enter Tryd.func70, Tryd.ntmps70
  go_wp2
  go_ret
  refine ⟨rfl, ?_⟩
  (repeat (first | exact Below.refl _ _ | apply Below.drew | refine below_drewN' ?_ _ | refine Below.setCell ?_ (by first | (simp; done) | (simp; omega)) _ | refine Below.alloc ?_ (by first | (simp; done) | (simp; omega)) _))
theorem bef3 (x y z u x' y' z' u' : Int) (w : World) (h : y = y') (h' : x < x') :
    Calls Tryd.prog 70 #[.agg #[.int .i8 x, .int .i8 y, .int .i8 z, .int .i8 u], .agg #[.int .i8 x', .int .i8 y', .int .i8 z', .int .i8 u']] w fun e w' => e = .returned (.bool true) ∧ Below w.heap.size w w' := by
  subst h
  have d1 : decide (y < y) = false := by simp
  have d3 : decide (x < x') = true := by simpa using h'
  go_enter Tryd.func70, Tryd.ntmps70
  go_wp2
  go_ret
  refine ⟨rfl, ?_⟩
  (repeat (first | exact Below.refl _ _ | apply Below.drew | refine below_drewN' ?_ _ | refine Below.setCell ?_ (by first | (simp; done) | (simp; omega)) _ | refine Below.alloc ?_ (by first | (simp; done) | (simp; omega)) _))
theorem bef4 (x y z u x' y' z' u' : Int) (w : World) (h : y = y') (h' : ¬ x < x') :
    Calls Tryd.prog 70 #[.agg #[.int .i8 x, .int .i8 y, .int .i8 z, .int .i8 u], .agg #[.int .i8 x', .int .i8 y', .int .i8 z', .int .i8 u']] w fun e w' => e = .returned (.bool false) ∧ Below w.heap.size w w' := by
  subst h
  have d1 : decide (y < y) = false := by simp
  have d3 : decide (x < x') = false := by simpa using h'
  go_enter Tryd.func70, Tryd.ntmps70
  go_wp2
  go_ret
  refine ⟨rfl, ?_⟩
  (repeat (first | exact Below.refl _ _ | apply Below.drew | refine below_drewN' ?_ _ | refine Below.setCell ?_ (by first | (simp; done) | (simp; omega)) _ | refine Below.alloc ?_ (by first | (simp; done) | (simp; omega)) _))
theorem bef_yes (x y z u x' y' z' u' : Int) (w : World) (h : y < y' ∨ (y = y' ∧ x < x')) : Calls Tryd.prog 70 #[.agg #[.int .i8 x, .int .i8 y, .int .i8 z, .int .i8 u], .agg #[.int .i8 x', .int .i8 y', .int .i8 z', .int .i8 u']] w fun e w' => e = .returned (.bool true) ∧ Below w.heap.size w w' := by
  rcases h with h | ⟨h, h'⟩
  · exact bef1 x y z u x' y' z' u' w h
  · exact bef3 x y z u x' y' z' u' w h h'
theorem bef_no (x y z u x' y' z' u' : Int) (w : World) (h : ¬ (y < y' ∨ (y = y' ∧ x < x'))) : Calls Tryd.prog 70 #[.agg #[.int .i8 x, .int .i8 y, .int .i8 z, .int .i8 u], .agg #[.int .i8 x', .int .i8 y', .int .i8 z', .int .i8 u']] w fun e w' => e = .returned (.bool false) ∧ Below w.heap.size w w' := by
  by_cases h1 : y' < y
  · exact bef2 x y z u x' y' z' u' w h1
  · exact bef4 x y z u x' y' z' u' w (by omega) (by omega)

theorem cmp_lt (x y : Int) (w : World) (h : x < y) : Calls Tryd.prog 91 #[.int .i8 x, .int .i8 y] w fun e w' => e = .returned (.int .i64 (-1)) ∧ w' = w := by
  go_enter Tryd.func91, Tryd.ntmps91
  go_wp2
  go_ret
  exact ⟨rfl, rfl⟩
theorem cmp_gt (x y : Int) (w : World) (h : y < x) : Calls Tryd.prog 91 #[.int .i8 x, .int .i8 y] w fun e w' => e = .returned (.int .i64 1) ∧ w' = w := by
  go_enter Tryd.func91, Tryd.ntmps91
  go_wp2
  go_ret
  exact ⟨rfl, rfl⟩
theorem cmp_eq (x : Int) (w : World) : Calls Tryd.prog 91 #[.int .i8 x, .int .i8 x] w fun e w' => e = .returned (.int .i64 0) ∧ w' = w := by
  go_enter Tryd.func91, Tryd.ntmps91
  go_wp2
  go_ret
  exact ⟨rfl, rfl⟩
/-- the sign of a difference. -/
def sgn (x y : Int) : Int := if x < y then -1 else if y < x then 1 else 0
theorem cmp_any (x y : Int) (w : World) : Calls Tryd.prog 91 #[.int .i8 x, .int .i8 y] w fun e w' => e = .returned (.int .i64 (sgn x y)) ∧ w' = w := by
  unfold sgn
  by_cases h : x < y
  · rw [if_pos h]; exact cmp_lt x y w h
  · rw [if_neg h]
    by_cases h' : y < x
    · rw [if_pos h']; exact cmp_gt x y w h'
    · rw [if_neg h']; obtain rfl : x = y := by omega
      exact cmp_eq x w

theorem or_first (b : Nat) (s t : Int) (w : World) (h0 : w.cell? ⟨b, 0, none⟩ = some (.int .i64 s)) (h1 : w.cell? ⟨b, 1, none⟩ = some (.int .i64 t)) (hs : (s != 0) = true) :
    Calls Tryd.prog 90 #[.slice (some ⟨b, 0, none⟩) 2 2] w fun e w' => e = .returned (.int .i64 s) ∧ w' = w := by
  go_enter Tryd.func90, Tryd.ntmps90
  go_wp2
  refine wp_loop_rounds 1 ?_
  rw [rounds_succ]
  go_wp2
  go_ret
  exact ⟨rfl, rfl⟩
theorem or_second (b : Nat) (s t : Int) (w : World) (h0 : w.cell? ⟨b, 0, none⟩ = some (.int .i64 s)) (h1 : w.cell? ⟨b, 1, none⟩ = some (.int .i64 t)) (hs : (s != 0) = false) (ht : (t != 0) = true) :
    Calls Tryd.prog 90 #[.slice (some ⟨b, 0, none⟩) 2 2] w fun e w' => e = .returned (.int .i64 t) ∧ w' = w := by
  go_enter Tryd.func90, Tryd.ntmps90
  go_wp2
  refine wp_loop_rounds 2 ?_
  rw [rounds_succ]
  go_wp2
  rw [rounds_succ]
  go_wp2
  go_ret
  exact ⟨rfl, rfl⟩
theorem or_none (b : Nat) (s t : Int) (w : World) (h0 : w.cell? ⟨b, 0, none⟩ = some (.int .i64 s)) (h1 : w.cell? ⟨b, 1, none⟩ = some (.int .i64 t)) (hs : (s != 0) = false) (ht : (t != 0) = false) :
    Calls Tryd.prog 90 #[.slice (some ⟨b, 0, none⟩) 2 2] w fun e w' => e = .returned (.int .i64 0) ∧ w' = w := by
  go_enter Tryd.func90, Tryd.ntmps90
  go_wp2
  refine wp_loop_rounds 3 ?_
  rw [rounds_succ]
  go_wp2
  rw [rounds_succ]
  go_wp2
  rw [rounds_succ]
  go_wp2
  go_ret
  exact ⟨rfl, rfl⟩
end Go.Proofs.YtmkcdelfgaogaaaDoor
