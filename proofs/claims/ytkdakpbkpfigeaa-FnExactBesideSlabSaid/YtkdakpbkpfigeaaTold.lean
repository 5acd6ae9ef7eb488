/-
  The contract of spec.l01Told. Conditions stand at each.
-/
import Derived.Test.YtkdakpbkpfigeaaRows
import Derived.Test.YtkdakpbkpfigeaaGrid
import Derived.Test.YtkdakpbkpfigeaaC2
import Derived.Test.YtkdakpbkpfigeaaLay2
import Derived.Deep.RegionHeld3
import Derived.Deep.QuietTactic
import Derived.BigQuiet
namespace Go.Proofs.Ytkdakpbkpfigeaa
open Go Go.ChangeShapes Go.WideShapes Go.ChangeAt Go.RowKit
set_option linter.unusedVariables false
set_option linter.unusedSimpArgs false
set_option maxRecDepth 100000
set_option maxHeartbeats 400000

/-- the code that is told of a square and of numbers. -/
theorem told_ok (X Y : Int) (bq g n : Nat) (c : Nat → Int) (fine : Bool) (w : World) (hX : -128 ≤ X ∧ X ≤ 127) (hY : -128 ≤ Y ∧ Y ≤ 127) (hc : ∀ j, -128 ≤ c j ∧ c j ≤ 127) (hm : n ≤ 1048576) (hq : Sq w bq X Y (.slice (some ⟨g, 0, none⟩) n n)) (hrow : w.rowIs g 110 (4 * n) (fun j => .int .i8 (c j))) (hv : Valid X Y n c) :
    Calls Try.prog 73 #[.pointer (some ⟨bq, 0, none⟩), .bool fine] w fun e w' => e = .returned (.int .i64 (if fine then 0 else 2)) ∧ Below w.heap.size w w' := by
  have HL := Lib.hid (ok_any X Y bq g n c w hX hY hc hm hq hrow)
  go_enter Try.func73, Try.ntmps73
  go_wp2_with fail
  refine HL.out.mono ?_
  rintro e w1 ⟨hb, ⟨_, rfl⟩ | ⟨h, _⟩⟩
  · cases fine
    · go_wp2_with fail
      go_ret
      exact ⟨rfl, hb⟩
    · go_wp2_with fail
      go_ret
      exact ⟨rfl, hb⟩
  · exact absurd hv h
theorem told_bad (X Y : Int) (bq g n : Nat) (c : Nat → Int) (fine : Bool) (w : World) (hX : -128 ≤ X ∧ X ≤ 127) (hY : -128 ≤ Y ∧ Y ≤ 127) (hc : ∀ j, -128 ≤ c j ∧ c j ≤ 127) (hm : n ≤ 1048576) (hq : Sq w bq X Y (.slice (some ⟨g, 0, none⟩) n n)) (hrow : w.rowIs g 110 (4 * n) (fun j => .int .i8 (c j))) (hv : ¬ Valid X Y n c) :
    Calls Try.prog 73 #[.pointer (some ⟨bq, 0, none⟩), .bool fine] w fun e w' => e = .returned (.int .i64 1) ∧ Below w.heap.size w w' := by
  have HL := Lib.hid (ok_any X Y bq g n c w hX hY hc hm hq hrow)
  go_enter Try.func73, Try.ntmps73
  go_wp2_with fail
  refine HL.out.mono ?_
  rintro e w1 ⟨hb, ⟨h, _⟩ | ⟨_, rfl⟩⟩
  · exact absurd h hv
  · go_wp2_with fail
    go_ret
    exact ⟨rfl, hb⟩
end Go.Proofs.Ytkdakpbkpfigeaa
