/-
  The walk of the law FnExactDaysFor. Conditions stand at each.
-/
import Derived.Test.YtgpnimbgckajlaaRows
import Derived.Test.YtgpnimbgckajlaaDaysS
namespace Go.Proofs.Ytgpnimbgckajlaa.daysFor
open Go Go.ChangeShapes Go.WideShapes Go.ChangeAt Go.RowKit
set_option linter.unusedVariables false
set_option linter.unusedSimpArgs false
set_option maxRecDepth 100000
set_option maxHeartbeats 4000000
theorem walk (p q s t u wk : Int) (w : World) (bp : -128 ≤ p ∧ p ≤ 127) (bq : -128 ≤ q ∧ q ≤ 127) (bs : -128 ≤ s ∧ s ≤ 127) (bt : -128 ≤ t ∧ t ≤ 127) (bu : -32768 ≤ u ∧ u ≤ 32767) (bk : (Lit.int .i64 wk).wf = true) :
    Calls Try.prog 5 #[.agg #[.int .i8 p, .int .i8 q, .int .i8 s, .int .i8 t, .int .i16 u], .int .i64 wk] w fun e w' => e = .returned (.bool true) ∧ Below w.heap.size w w' := by
  obtain ⟨z, c, hS, hI⟩ := daysFor_both p q s t u wk bp bq bs bt bu
  have HS := Lib.hid hS
  have HI := Lib.hid hI
  have hrr : (z != z) = false := by simp
  have hcc : (c != c) = false := by simp
  have B := al (Below.refl w.heap.size w) (.cells #[.int .i8 p, .int .i8 q, .int .i8 s, .int .i8 t, .int .i16 u] 25)
  clear hS hI
  go_enter Try.func5, Try.ntmps5
  go_wp2_with fail
  refine (toGang_any p q s t u _).mono ?_
  rintro e w1 ⟨rfl, hb⟩
  have H3 := (Bx.new w (gangC p q s t u) 25).below hb
  replace B := nxt B hb
  clear hb
  go_wp2_with fail
  refine (HS.out _).mono ?_
  rintro e w2 ⟨hb, rfl⟩
  replace H3 := H3.below hb
  replace B := nxt B hb
  clear hb
  obtain ⟨c0, c1, c2, c3, c4⟩ := H3.gang
  go_wp2_with fail
  refine (toGang_any p q s t u _).mono ?_
  rintro e w3 ⟨rfl, hb⟩
  replace B := nxt B hb
  clear hb
  go_wp2_with fail
  refine (HI.out _).mono ?_
  rintro e w4 ⟨hb, rfl⟩
  replace B := nxt B hb
  clear hb
  go_wp2_with fail
  go_ret
  exact ⟨rfl, B⟩
end Go.Proofs.Ytgpnimbgckajlaa.daysFor
