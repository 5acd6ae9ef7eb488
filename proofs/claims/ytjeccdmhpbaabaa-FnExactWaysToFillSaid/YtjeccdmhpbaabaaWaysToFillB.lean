/-
  Both sides of WaysToFill answer the same. Conditions stand at each.
-/
import Derived.Test.YtjeccdmhpbaabaaRows
import Derived.Test.YtjeccdmhpbaabaaWaysI
namespace Go.Proofs.Ytjeccdmhpbaabaa
open Go Go.ChangeShapes Go.WideShapes Go.ChangeAt Go.RowKit
set_option linter.unusedVariables false
set_option linter.unusedSimpArgs false
set_option maxRecDepth 100000
set_option maxHeartbeats 2000000
namespace waysToFill
theorem both (n : Nat) (c d : Nat → Int) (l k : Int) (hc : ∀ j, -128 ≤ c j ∧ c j ≤ 127) (hd : ∀ j, -32768 ≤ d j ∧ d j ≤ 32767) (hn : n ≤ 1048576) (bl : (Lit.int .i64 l).wf = true) (bk : (Lit.int .i64 k).wf = true) :
    ∃ (z1 z2 : Int),
      (∀ (W : World) (G0 : Nat), As W G0 n c d → Calls Try.prog 62 #[.slice (some ⟨G0, 0, none⟩) n n, .int .i64 l, .int .i64 k] W fun e w' => e = .returned (.tuple #[.int .i64 z1, .int .i64 z2]) ∧ Below W.heap.size W w') ∧
      (∀ (W : World) (G0 : Nat), As W G0 n c d → Calls Try.prog 63 #[.slice (some ⟨G0, 0, none⟩) n n, .int .i64 l, .int .i64 k] W fun e w' => e = .returned (.tuple #[.int .i64 z1, .int .i64 z2]) ∧ Below W.heap.size W w') := by
  have hS := fun (W : World) (G : Nat) (R : As W G n c d) => specWays_any _ n c d l k W hn R.rd hc hd
  have hI := fun (W : World) (G : Nat) (R : As W G n c d) => implWays_any _ n c d l k W hn R.rd hc hd
  by_cases h1 : SOk n c d
  · by_cases h2 : JointOk k ∧ LongOk l
    · refine ⟨wS c d k n (l + k).toNat, 0, fun W G R => (hS W G R).mono ?_, fun W G R => (hI W G R).mono ?_⟩
      all_goals
        rintro e w' ⟨hb, ⟨_, _, rfl⟩ | ⟨h, _⟩ | ⟨_, h, _⟩⟩
        · exact ⟨rfl, hb⟩
        · exact absurd h1 h
        · exact absurd h2 h
    · refine ⟨0, 2, fun W G R => (hS W G R).mono ?_, fun W G R => (hI W G R).mono ?_⟩
      all_goals
        rintro e w' ⟨hb, ⟨_, h, _⟩ | ⟨h, _⟩ | ⟨_, _, rfl⟩⟩
        · exact absurd h h2
        · exact absurd h1 h
        · exact ⟨rfl, hb⟩
  · refine ⟨0, 1, fun W G R => (hS W G R).mono ?_, fun W G R => (hI W G R).mono ?_⟩
    all_goals
      rintro e w' ⟨hb, ⟨h, _⟩ | ⟨_, rfl⟩ | ⟨h, _⟩⟩
      · exact absurd h h1
      · exact ⟨rfl, hb⟩
      · exact absurd h h1
end waysToFill
end Go.Proofs.Ytjeccdmhpbaabaa
