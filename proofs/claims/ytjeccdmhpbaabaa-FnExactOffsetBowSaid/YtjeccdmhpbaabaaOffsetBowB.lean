/-
  Both sides of OffsetBow answer the same. Conditions stand at each.
-/
import Derived.Test.YtjeccdmhpbaabaaRows
import Derived.Test.YtjeccdmhpbaabaaOffset
namespace Go.Proofs.Ytjeccdmhpbaabaa
open Go Go.ChangeShapes Go.WideShapes Go.ChangeAt Go.RowKit
set_option linter.unusedVariables false
set_option linter.unusedSimpArgs false
set_option maxRecDepth 100000
set_option maxHeartbeats 2000000
namespace offsetBow
theorem both (n : Nat) (c : Nat → Int) (hc : ∀ j, (Lit.int .i64 (c j)).wf = true) (hn : n ≤ 1048576) :
    ∃ (nn : Nat) (ff : Nat → Int) (z1 : Int), nn ≤ 1000 ∧
      (∀ (W : World) (G0 : Nat), Ar W G0 n c → Calls Try.prog 41 #[.slice (some ⟨G0, 0, none⟩) n n] W fun e w' => Below W.heap.size W w' ∧ ∃ v, e = .returned (.tuple #[v, .int .i64 z1]) ∧ HasSlice .i64 1 w' W.heap.size v nn ff) ∧
      (∀ (W : World) (G0 : Nat), Ar W G0 n c → Calls Try.prog 42 #[.slice (some ⟨G0, 0, none⟩) n n] W fun e w' => Below W.heap.size W w' ∧ ∃ v, e = .returned (.tuple #[v, .int .i64 z1]) ∧ HasSlice .i64 1 w' W.heap.size v nn ff) := by
  by_cases hg : Bow n c
  · refine ⟨(offL n (n / 2) c).length, fun j => (offL n (n / 2) c).getD j 0, 0, by have := hg.1.2; simp [offL, rowL_length]; omega, fun W G R => (specOff_any _ n (n / 2) c W hn rfl R.rd).mono ?_, fun W G R => (implOff_any _ n (n / 2) c W hn rfl R.rd).mono ?_⟩
    all_goals
      rintro e w' ⟨hb, ⟨_, v, he, o⟩ | ⟨h', _⟩⟩
      · exact ⟨hb, v, he, o.has⟩
      · exact absurd hg h'
  · refine ⟨0, fun j => ([] : List Int).getD j 0, 1, Nat.zero_le _, fun W G R => (specOff_any _ n (n / 2) c W hn rfl R.rd).mono ?_, fun W G R => (implOff_any _ n (n / 2) c W hn rfl R.rd).mono ?_⟩
    all_goals
      rintro e w' ⟨hb, ⟨h', _⟩ | ⟨_, v, he, o⟩⟩
      · exact absurd h' hg
      · exact ⟨hb, v, he, o.has⟩
end offsetBow
end Go.Proofs.Ytjeccdmhpbaabaa
