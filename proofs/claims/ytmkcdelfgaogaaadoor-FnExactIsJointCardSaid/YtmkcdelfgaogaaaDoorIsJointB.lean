/-
  Both sides of IsJoint answer the same. Conditions stand at each.
-/
import Derived.Test.YtmkcdelfgaogaaaDoorRows
import Derived.Test.YtmkcdelfgaogaaaDoorIsJointS
import Derived.Test.YtmkcdelfgaogaaaDoorSlabN
namespace Go.Proofs.YtmkcdelfgaogaaaDoor.isJoint
open Go Go.ChangeShapes Go.WideShapes Go.ChangeAt Go.RowKit
set_option linter.unusedVariables false
set_option linter.unusedSimpArgs false
set_option maxRecDepth 100000
set_option maxHeartbeats 4000000

theorem both (X Y : Int) (n : Nat) (c : Nat → Int) (ax ay bx by_ : Int) (a0 a1 a2 : Addr) (w : World) (hX : -128 ≤ X ∧ X ≤ 127) (hY : -128 ≤ Y ∧ Y ≤ 127) (hc : ∀ j, -128 ≤ c j ∧ c j ≤ 127) (hm : n ≤ 1048576) (hax : -128 ≤ ax ∧ ax ≤ 127) (hay : -128 ≤ ay ∧ ay ≤ 127) (hbx : -128 ≤ bx ∧ bx ≤ 127) (hby : -128 ≤ by_ ∧ by_ ≤ 127) (hE : Sent w a0 a1 a2) :
    ∃ (z0 : Bool) (z1 : Int),
      (∀ (W : World) (G0 : Nat), Below w.heap.size w W → Ab W G0 n c → Calls Tryd.prog 9 #[.agg #[.int .i8 X, .int .i8 Y, .slice (some ⟨G0, 0, none⟩) n n], .agg #[.int .i8 ax, .int .i8 ay], .agg #[.int .i8 bx, .int .i8 by_]] W fun e w' => Below W.heap.size W w' ∧ e = .returned (.tuple #[.bool z0, .int .i64 z1])) ∧
      (∀ (W : World) (G0 : Nat), Below w.heap.size w W → Ab W G0 n c → Calls Tryd.prog 12 #[.agg #[.int .i8 X, .int .i8 Y, .slice (some ⟨G0, 0, none⟩) n n], .agg #[.int .i8 ax, .int .i8 ay], .agg #[.int .i8 bx, .int .i8 by_]] W fun e w' => Below W.heap.size W w' ∧ e = .returned (.tuple #[.bool z0, .int .i64 z1])) := by
  have one : ∃ (z0 : Bool) (z1 : Int), ∀ W e w', IjPost X Y n c ax ay bx by_ W e w' → Below W.heap.size W w' ∧ e = .returned (.tuple #[.bool z0, .int .i64 z1]) := by
    by_cases hv : Valid X Y n c
    · by_cases hp : PtIn X Y ax ay ∧ PtIn X Y bx by_
      · refine ⟨betw (gridN c n) ax ay bx by_, 0, fun W e w' h => ⟨h.1, ?_⟩⟩
        rcases h.2 with ⟨h1, _⟩ | ⟨_, h1, _⟩ | ⟨_, _, h1⟩
        · exact absurd hv h1
        · exact absurd hp h1
        · exact h1
      · refine ⟨false, 2, fun W e w' h => ⟨h.1, ?_⟩⟩
        rcases h.2 with ⟨h1, _⟩ | ⟨_, _, h1⟩ | ⟨_, h1, _⟩
        · exact absurd hv h1
        · exact h1
        · exact absurd h1 hp
    · refine ⟨false, 1, fun W e w' h => ⟨h.1, ?_⟩⟩
      rcases h.2 with ⟨_, h1⟩ | ⟨h1, _⟩ | ⟨h1, _⟩
      · exact h1
      · exact absurd h1 hv
      · exact absurd h1 hv
  obtain ⟨z0, z1, h⟩ := one
  exact ⟨z0, z1, fun W g hb R => (specIj_any X Y g n c ax ay bx by_ W hX hY hc hm R.row hax hay hbx hby).mono fun e w' hp => h W e w' hp,
    fun W g hb R => (implIj_any X Y g n c ax ay bx by_ a0 a1 a2 W hX hY hc hm R.row hax hay hbx hby (hE.below hb)).mono fun e w' hp => h W e w' hp⟩
end Go.Proofs.YtmkcdelfgaogaaaDoor.isJoint
