/-
  Both sides of CountJoints answer the same. Conditions stand at each.
-/
import Derived.Test.YtmkcdelfgaogaaaDoorRows
import Derived.Test.YtmkcdelfgaogaaaDoorCountS
import Derived.Test.YtmkcdelfgaogaaaDoorSlabN
namespace Go.Proofs.YtmkcdelfgaogaaaDoor.countJoints
open Go Go.ChangeShapes Go.WideShapes Go.ChangeAt Go.RowKit
set_option linter.unusedVariables false
set_option linter.unusedSimpArgs false
set_option maxRecDepth 100000
set_option maxHeartbeats 4000000

theorem both (X Y : Int) (n : Nat) (c : Nat → Int) (a0 a1 a2 : Addr) (w : World) (hX : -128 ≤ X ∧ X ≤ 127) (hY : -128 ≤ Y ∧ Y ≤ 127) (hc : ∀ j, -128 ≤ c j ∧ c j ≤ 127) (hm : n ≤ 1048576) (hE : Sent w a0 a1 a2) :
    ∃ (z0 z1 : Int),
      (∀ (W : World) (G0 : Nat), Below w.heap.size w W → Ab W G0 n c → Calls Tryd.prog 14 #[.agg #[.int .i8 X, .int .i8 Y, .slice (some ⟨G0, 0, none⟩) n n]] W fun e w' => Below W.heap.size W w' ∧ e = .returned (.tuple #[.int .i64 z0, .int .i64 z1])) ∧
      (∀ (W : World) (G0 : Nat), Below w.heap.size w W → Ab W G0 n c → Calls Tryd.prog 15 #[.agg #[.int .i8 X, .int .i8 Y, .slice (some ⟨G0, 0, none⟩) n n]] W fun e w' => Below W.heap.size W w' ∧ e = .returned (.tuple #[.int .i64 z0, .int .i64 z1])) := by
  have one : ∃ (z0 z1 : Int), ∀ W e w', CjPost X Y n c W e w' → Below W.heap.size W w' ∧ e = .returned (.tuple #[.int .i64 z0, .int .i64 z1]) := by
    by_cases hv : Valid X Y n c
    · refine ⟨((jl X.toNat (gridN c n) (X.toNat * Y.toNat)).length : Int), 0, fun W e w' h => ⟨h.1, ?_⟩⟩
      rcases h.2 with ⟨h1, _⟩ | ⟨_, h1⟩
      · exact absurd hv h1
      · exact h1
    · refine ⟨0, 1, fun W e w' h => ⟨h.1, ?_⟩⟩
      rcases h.2 with ⟨_, h1⟩ | ⟨h1, _⟩
      · exact h1
      · exact absurd h1 hv
  obtain ⟨z0, z1, h⟩ := one
  exact ⟨z0, z1, fun W g hb R => (specCj_any X Y g n c W hX hY hc hm R.row).mono fun e w' hp => h W e w' hp,
    fun W g hb R => (implCj_any X Y g n c a0 a1 a2 W hX hY hc hm R.row (hE.below hb)).mono fun e w' hp => h W e w' hp⟩
end Go.Proofs.YtmkcdelfgaogaaaDoor.countJoints
