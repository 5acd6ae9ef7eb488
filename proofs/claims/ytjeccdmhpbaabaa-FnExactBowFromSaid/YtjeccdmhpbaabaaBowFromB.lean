/-
  Both sides of BowFrom answer the same. Conditions stand at each.
-/
import Derived.Test.YtjeccdmhpbaabaaRows
import Derived.Test.YtjeccdmhpbaabaaFrom
namespace Go.Proofs.Ytjeccdmhpbaabaa
open Go Go.ChangeShapes Go.WideShapes Go.ChangeAt Go.RowKit
set_option linter.unusedVariables false
set_option linter.unusedSimpArgs false
set_option maxRecDepth 100000
set_option maxHeartbeats 2000000
namespace bowFrom
theorem both (n : Nat) (c : Nat → Int) (hc : ∀ j, (Lit.int .i64 (c j)).wf = true) (hn : n ≤ 1048576) :
    ∃ (nn : Nat) (ff : Nat → Int) (z1 : Int), nn ≤ 1000 ∧
      (∀ (W : World) (G0 : Nat), Ar W G0 n c → Calls Try.prog 37 #[.slice (some ⟨G0, 0, none⟩) n n] W fun e w' => Below W.heap.size W w' ∧ ∃ v, e = .returned (.tuple #[v, .int .i64 z1]) ∧ HasSlice .i64 1 w' W.heap.size v nn ff) ∧
      (∀ (W : World) (G0 : Nat), Ar W G0 n c → Calls Try.prog 38 #[.slice (some ⟨G0, 0, none⟩) n n] W fun e w' => Below W.heap.size W w' ∧ ∃ v, e = .returned (.tuple #[v, .int .i64 z1]) ∧ HasSlice .i64 1 w' W.heap.size v nn ff) := by
  by_cases hg : FromGood n c
  · refine ⟨(hsL c (n + 1)).length, fun j => (hsL c (n + 1)).getD j 0, 0, by rw [hsL_length]; have := hg.1.2; omega, fun W G R => (specFrom_any _ n n c W hn hc R.rd).mono ?_, fun W G R => (implFrom_any _ n n c W hn R.rd).mono ?_⟩
    all_goals
      rintro e w' ⟨hb, ⟨_, v, he, o⟩ | ⟨h', _⟩⟩
      · exact ⟨hb, v, he, o.has⟩
      · exact absurd hg h'
  · refine ⟨0, fun j => ([] : List Int).getD j 0, 4, Nat.zero_le _, fun W G R => (specFrom_any _ n n c W hn hc R.rd).mono ?_, fun W G R => (implFrom_any _ n n c W hn R.rd).mono ?_⟩
    all_goals
      rintro e w' ⟨hb, ⟨h', _⟩ | ⟨_, v, he, o⟩⟩
      · exact absurd h' hg
      · exact ⟨hb, v, he, o.has⟩
end bowFrom
end Go.Proofs.Ytjeccdmhpbaabaa
