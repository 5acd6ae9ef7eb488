/-
  Each list of slabs has a sorted one. It names no program.
-/
import Derived.Test.YtkdakpbkpfigeaaRows
import Derived.Test.YtkdakpbkpfigeaaSort
namespace Go.Proofs.Ytkdakpbkpfigeaa
theorem exists_sorted (D : List S4) : ∃ L, SortedOf D L := by
  refine ⟨D.mergeSort (fun a b => decide (¬ bfr b a)), List.mergeSort_perm _ _, ?_⟩
  have h := List.pairwise_mergeSort (le := fun a b : S4 => decide (¬ bfr b a)) (fun a b c h1 h2 => by
    simp only [decide_eq_true_eq] at h1 h2 ⊢
    unfold bfr at h1 h2 ⊢
    omega) (fun a b => by
    simp only [Bool.or_eq_true, decide_eq_true_eq]
    unfold bfr
    omega) D
  exact h.imp (fun h => by simpa using h)
end Go.Proofs.Ytkdakpbkpfigeaa
