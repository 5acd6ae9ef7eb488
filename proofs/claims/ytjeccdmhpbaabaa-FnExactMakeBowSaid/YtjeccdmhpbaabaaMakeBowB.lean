/-
  Both sides of MakeBow answer the same. Conditions stand at each.
-/
import Derived.Test.YtjeccdmhpbaabaaRows
import Derived.Test.YtjeccdmhpbaabaaMake
namespace Go.Proofs.Ytjeccdmhpbaabaa
open Go Go.ChangeShapes Go.WideShapes Go.ChangeAt Go.RowKit
set_option linter.unusedVariables false
set_option linter.unusedSimpArgs false
set_option maxRecDepth 100000
set_option maxHeartbeats 2000000
namespace makeBow
theorem both (k0 k1 : Int) (b0 : (Lit.int .i64 k0).wf = true) (b1 : (Lit.int .i64 k1).wf = true) :
    ∃ (nn : Nat) (ff : Nat → Int) (z1 : Int), nn ≤ 1000 ∧
      (∀ (W : World), Calls Try.prog 33 #[.int .i64 k0, .int .i64 k1] W fun e w' => Below W.heap.size W w' ∧ ∃ v, e = .returned (.tuple #[v, .int .i64 z1]) ∧ HasSlice .i64 1 w' W.heap.size v nn ff) ∧
      (∀ (W : World), Calls Try.prog 34 #[.int .i64 k0, .int .i64 k1] W fun e w' => Below W.heap.size W w' ∧ ∃ v, e = .returned (.tuple #[v, .int .i64 z1]) ∧ HasSlice .i64 1 w' W.heap.size v nn ff) := by
  by_cases h : (2 ≤ k0 ∧ k0 ≤ 39) ∧ 0 ≤ k1 ∧ k1 ≤ 1000
  · obtain ⟨wd, rfl⟩ := Int.eq_ofNat_of_zero_le (show 0 ≤ k0 by omega)
    by_cases hg : MakeGood wd k1
    · refine ⟨(mkL wd k1 (wd + 1)).length, fun j => (mkL wd k1 (wd + 1)).getD j 0, 0, by rw [mkL_length]; omega, fun W => (specMake_in wd k1 W (by omega) (by omega) h.2.1 h.2.2).mono ?_, fun W => (implMake_in wd k1 W (by omega) (by omega) h.2.1 h.2.2).mono ?_⟩
      all_goals
        rintro e w' ⟨hb, ⟨_, v, he, o⟩ | ⟨h', _⟩⟩
        · exact ⟨hb, v, he, o.has⟩
        · exact absurd hg h'
    · refine ⟨0, fun j => ([] : List Int).getD j 0, 4, Nat.zero_le _, fun W => (specMake_in wd k1 W (by omega) (by omega) h.2.1 h.2.2).mono ?_, fun W => (implMake_in wd k1 W (by omega) (by omega) h.2.1 h.2.2).mono ?_⟩
      all_goals
        rintro e w' ⟨hb, ⟨h', _⟩ | ⟨_, v, he, o⟩⟩
        · exact absurd h' hg
        · exact ⟨hb, v, he, o.has⟩
  · refine ⟨0, fun j => ([] : List Int).getD j 0, 2, Nat.zero_le _, fun W => (specMake_bad k0 k1 W h).mono ?_, fun W => (implMake_bad k0 k1 W h).mono ?_⟩
    all_goals
      rintro e w' ⟨hb, v, he, o⟩
      exact ⟨hb, v, he, o.has⟩
end makeBow
end Go.Proofs.Ytjeccdmhpbaabaa
