/-
  Slabs of a valid square have no cell in common. It names no program.
-/
import Derived.Test.YtkdakpbkpfigeaaRows
import Derived.Test.YtkdakpbkpfigeaaInsert
import Derived.Test.YtkdakpbkpfigeaaLink
namespace Go.Proofs.Ytkdakpbkpfigeaa
set_option linter.unusedVariables false

theorem grid_of_cov {c : Nat → Int} {i p : Nat} (h : cov c i p) : ∀ k, i < k → gridN c k p ≠ 0
  | 0, hk => by omega
  | k + 1, hk => by
    show (if cov c k p then (k : Int) + 1 else gridN c k p) ≠ 0
    by_cases hc : cov c k p
    · rw [if_pos hc]; omega
    · rw [if_neg hc]
      exact grid_of_cov h k (by
        rcases Nat.lt_or_ge i k with h' | h'
        · exact h'
        · have : i = k := by omega
          subst this
          exact absurd h hc)
theorem no_common {X Y : Int} {n : Nat} {c : Nat → Int} (hv : Valid X Y n c) {i j p : Nat} (hij : i < j) (hj : j < n) (hp : p < 144) (h1 : cov c i p) (h2 : cov c j p) : False :=
  grid_of_cov h1 j hij ((hv.2.2.2.2.2 j hj).2.2 p hp h2)
theorem apart_map {X Y : Int} {n : Nat} {c : Nat → Int} {t : Nat → S4} (hv : Valid X Y n c)
    (h : ∀ i j, i < n → j < n → ((t i).1 = (t j).1 ∧ (t i).2.1 = (t j).2.1) → ∃ p, p < 144 ∧ cov c i p ∧ cov c j p) : Apart ((List.range n).map t) := by
  unfold Apart
  rw [List.pairwise_iff_getElem]
  intro i j hi hj hij
  simp at hi hj
  simp only [List.getElem_map, List.getElem_range]
  intro he
  obtain ⟨p, hp, h1, h2⟩ := h i j hi hj he
  exact no_common hv hij hj hp h1 h2
end Go.Proofs.Ytkdakpbkpfigeaa
