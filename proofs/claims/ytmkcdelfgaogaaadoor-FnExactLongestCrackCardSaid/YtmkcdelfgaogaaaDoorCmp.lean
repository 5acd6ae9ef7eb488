/-
  The contract of impl.comparePlaces: the number it answers is below zero where the first slab comes before the second one.
-/
import Derived.Test.YtmkcdelfgaogaaaDoorRows
import Derived.Test.YtmkcdelfgaogaaaDoorBefore
import Derived.StillTailTactics
namespace Go.Proofs.YtmkcdelfgaogaaaDoor
open Go Go.ChangeShapes Go.WideShapes Go.ChangeAt Go.RowKit
set_option linter.unusedVariables false
set_option linter.unusedSimpArgs false
set_option maxRecDepth 100000
set_option maxHeartbeats 2000000

theorem sgn_neg {x y : Int} : sgn x y < 0 ↔ x < y := by unfold sgn; repeat (first | split) <;> omega
theorem sgn_zero {x y : Int} : sgn x y = 0 ↔ x = y := by unfold sgn; repeat (first | split) <;> omega

theorem cp_any (x y z u x' y' z' u' : Int) (w : World) :
    Calls Tryd.prog 74 #[.agg #[.int .i8 x, .int .i8 y, .int .i8 z, .int .i8 u], .agg #[.int .i8 x', .int .i8 y', .int .i8 z', .int .i8 u']] w fun e w' => Below w.heap.size w w' ∧ ∃ r : Int, e = .returned (.int .i64 r) ∧ (r < 0 ↔ y < y' ∨ (y = y' ∧ x < x')) := by
  go_enter Tryd.func74, Tryd.ntmps74
  go_wp2_with fail
  obtain ⟨w2, hw2⟩ : ∃ w2, ((w.alloc (.cells #[.int .i8 x, .int .i8 y, .int .i8 z, .int .i8 u] 105)).alloc (.cells #[.int .i8 x', .int .i8 y', .int .i8 z', .int .i8 u'] 105)) = w2 := ⟨_, rfl⟩
  have hB : Below w.heap.size w w2 := by rw [← hw2]; exact al (al (Below.refl _ _) _) _
  have hsz : w2.heap.size = w.heap.size + 2 := by rw [← hw2]; simp
  have z1 : Sl w2 w.heap.size x y z u := by rw [← hw2]; exact (Sl.new w _ _ _ _ _).alloc _
  have z2 : Sl w2 (w.heap.size + 1) x' y' z' u' := by
    rw [← hw2]
    have := Sl.new (w.alloc (.cells #[.int .i8 x, .int .i8 y, .int .i8 z, .int .i8 u] 105)) x' y' z' u' 105
    simpa using this
  rw [hw2]
  clear hw2
  refine wp_region_still_tail 10 (by kernel_rfl) (by kernel_rfl) ?_
  generalize hw3 : ({ heap := w2.heap, tape := w2.tape, drawn := w2.drawn + 1, os := w2.os, output := w2.output } : World) = w3
  have hB3 : Below w.heap.size w w3 := by rw [← hw3]; exact hB.drew
  have hsz3 : w3.heap.size = w.heap.size + 2 := by rw [← hw3]; exact hsz
  have y1 : Sl w3 w.heap.size x y z u := by rw [← hw3]; exact z1
  have y2 : Sl w3 (w.heap.size + 1) x' y' z' u' := by rw [← hw3]; exact z2
  clear hw3 z1 z2
  obtain ⟨_, c0, c1, _⟩ := id y1
  obtain ⟨_, d0, d1, _⟩ := id y2
  simp only [List.take_succ_cons, List.take_zero, List.drop_succ_cons, List.drop_zero]
  still_step
  still_step
  still_step
  still_step
  still_call (cmp_any _ _ _)
  still_step
  still_step
  still_step
  still_step
  still_call (cmp_any _ _ _)
  refine wpStill_nil ?_
  clear y1 y2 c0 c1 d0 d1 hB hsz hsz3
  have hO : ∃ r : Int, (r < 0 ↔ y < y' ∨ (y = y' ∧ x < x')) ∧ ∀ W : World, W.cell? ⟨w3.heap.size, 0, none⟩ = some (.int .i64 (sgn y y')) → W.cell? ⟨w3.heap.size, 1, none⟩ = some (.int .i64 (sgn x x')) →
      Calls Tryd.prog 90 #[.slice (some ⟨w3.heap.size, 0, none⟩) 2 2] W fun e w' => e = .returned (.int .i64 r) ∧ w' = W := by
    by_cases h1 : y = y'
    · have s1 : (sgn y y' != 0) = false := by have := (@sgn_zero y y').2 h1; simpa using this
      by_cases h2 : x = x'
      · have s2 : (sgn x x' != 0) = false := by have := (@sgn_zero x x').2 h2; simpa using this
        exact ⟨0, by omega, fun W a b => or_none w3.heap.size _ _ W a b s1 s2⟩
      · have s2 : (sgn x x' != 0) = true := by have := (not_congr (@sgn_zero x x')).2 h2; simpa using this
        exact ⟨_, sgn_neg.trans (by omega), fun W a b => or_second w3.heap.size _ _ W a b s1 s2⟩
    · have s1 : (sgn y y' != 0) = true := by have := (not_congr (@sgn_zero y y')).2 h1; simpa using this
      exact ⟨_, sgn_neg.trans (by omega), fun W a b => or_first w3.heap.size _ _ W a b s1⟩
  obtain ⟨r, hr, hO⟩ := hO
  have HR := Lib.hid hr
  have HO := Lib.hid hO
  clear hr hO
  go_wp2_with (go_at_call 90; with_reducible refine (HO.out _ ?_ ?_).mono ?_)
  · exact cell_of_row _ w3.heap.size 0 _ _ _ (heap_alloc_new w3 _)
  · exact cell_of_row _ w3.heap.size 1 _ _ _ (heap_alloc_new w3 _)
  rintro e w' ⟨rfl, rfl⟩
  go_wp2
  go_ret
  exact ⟨by exact al hB3 _, r, rfl, HR.out⟩
end Go.Proofs.YtmkcdelfgaogaaaDoor
