/-
  The kept counts of MeetAt as a list: the first of the least of them. Conditions stand at each.
-/
import Derived.Test.YtfpoikeibjojgaaDoorRows
import Derived.Test.YtfpoikeibjojgaaDoorMeetM
import Derived.Test.YtfpoikeibjojgaaDoorLeastI
namespace Go.Proofs.YtfpoikeibjojgaaDoor
open Go Go.ChangeShapes Go.WideShapes Go.ChangeAt Go.RowKit
set_option linter.unusedVariables false
set_option maxRecDepth 100000
set_option maxHeartbeats 2000000
/-- the counts below k that are fine, in their order. -/
def Kept (k : Nat) (ok : Nat → Prop) (ks : List Nat) : Prop := (∀ j, j ∈ ks ↔ j < k ∧ ok j) ∧ ks.Pairwise (· < ·) ∧ ks.length ≤ k
theorem Kept.nil (ok : Nat → Prop) : Kept 0 ok [] := ⟨fun j => ⟨fun h => (by cases h), fun h => absurd h.1 (by omega)⟩, List.Pairwise.nil, Nat.le_refl _⟩
theorem Kept.skip {k : Nat} {ok : Nat → Prop} {ks : List Nat} (h : Kept k ok ks) (hk : ¬ ok k) : Kept (k + 1) ok ks := ⟨fun j => by
  rw [h.1 j]
  constructor
  · rintro ⟨a, b⟩; exact ⟨by omega, b⟩
  · rintro ⟨a, b⟩
    refine ⟨?_, b⟩
    by_cases e : j = k
    · subst e; exact absurd b hk
    · omega, h.2.1, by have := h.2.2; omega⟩
theorem Kept.snoc {k : Nat} {ok : Nat → Prop} {ks : List Nat} (h : Kept k ok ks) (hk : ok k) : Kept (k + 1) ok (ks ++ [k]) := ⟨fun j => by
  rw [List.mem_append, h.1 j, List.mem_singleton]
  constructor
  · rintro (⟨a, b⟩ | rfl)
    · exact ⟨by omega, b⟩
    · exact ⟨by omega, hk⟩
  · rintro ⟨a, b⟩
    by_cases e : j = k
    · exact .inr e
    · exact .inl ⟨by omega, b⟩, by
  refine ⟨List.pairwise_append.2 ⟨h.2.1, List.pairwise_singleton _ _, fun a ha b hb => ?_⟩, by have := h.2.2; simp; omega⟩
  rw [List.mem_singleton] at hb
  have := ((h.1 a).1 ha).1
  omega⟩
theorem Kept.first {m : Nat} {ok : Nat → Prop} {f : Nat → Int} {ks : List Nat} (h : Kept m ok ks) (h1 : 1 ≤ ks.length) : FirstLeast m ok f (ks.getD (lsS (fun i => f (ks.getD i 0)) ks.length).1 0) := by
  obtain ⟨a1, a2, a3, a4⟩ := lsS_spec (fun i => f (ks.getD i 0)) ks.length h1
  obtain ⟨i0, hi0⟩ : ∃ i0, i0 = (lsS (fun i => f (ks.getD i 0)) ks.length).1 := ⟨_, rfl⟩
  rw [← hi0] at a1 a3 a4 ⊢
  have g : ∀ i, (hi : i < ks.length) → ks.getD i 0 = ks[i] := fun i hi => by simp [List.getD, hi]
  have hmem : ks.getD i0 0 ∈ ks := by rw [g i0 a1]; exact List.getElem_mem a1
  obtain ⟨b1, b2⟩ := (h.1 _).1 hmem
  refine ⟨b1, b2, fun j hj ho => ?_, fun j hj ho => ?_⟩
  · obtain ⟨i, hi, rfl⟩ := List.getElem_of_mem ((h.1 j).2 ⟨hj, ho⟩)
    have := a3 i hi
    rwa [g i hi] at this
  · obtain ⟨i, hi, rfl⟩ := List.getElem_of_mem ((h.1 j).2 ⟨by omega, ho⟩)
    have hii : i < i0 := by
      rcases Nat.lt_trichotomy i i0 with h' | h' | h'
      · exact h'
      · subst h'; rw [g i hi] at hj; omega
      · have := List.pairwise_iff_getElem.1 h.2.1 i0 i a1 hi h'
        rw [g i0 a1] at hj
        omega
    have := a4 i hii
    rwa [g i hi] at this
theorem Kept.none {m : Nat} {ok : Nat → Prop} (h : Kept m ok []) : ∀ k, k < m → ¬ ok k := fun k hk ho => by
  have := (h.1 k).2 ⟨hk, ho⟩
  cases this
end Go.Proofs.YtfpoikeibjojgaaDoor
