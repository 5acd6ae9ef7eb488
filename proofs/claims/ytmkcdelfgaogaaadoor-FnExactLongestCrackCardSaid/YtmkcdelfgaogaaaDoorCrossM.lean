/-
  Crosses: plain mathematics. Conditions stand at each.
-/
import Derived.Test.YtmkcdelfgaogaaaDoorRows
import Derived.Test.YtmkcdelfgaogaaaDoorJoint
import Derived.Test.YtmkcdelfgaogaaaDoorPlain
namespace Go.Proofs.YtmkcdelfgaogaaaDoor
open Go Go.ChangeShapes Go.WideShapes Go.ChangeAt Go.RowKit
set_option linter.unusedVariables false
set_option linter.unusedSimpArgs false
set_option maxRecDepth 100000
set_option maxHeartbeats 2000000

theorem grid_cov {c : Nat → Int} {i p : Nat} : ∀ n, gridN c n p = (i : Int) + 1 → i < n ∧ cov c i p
  | 0, h => by simp [gridN] at h; omega
  | n + 1, h => by
    have e : gridN c (n + 1) p = if cov c n p then (n : Int) + 1 else gridN c n p := rfl
    rw [e] at h
    by_cases hc : cov c n p
    · rw [if_pos hc] at h
      obtain rfl : n = i := by omega
      exact ⟨by omega, hc⟩
    · rw [if_neg hc] at h
      obtain ⟨h1, h2⟩ := grid_cov n h
      exact ⟨by omega, h2⟩
theorem grid_of_cov {X Y : Int} {c : Nat → Int} {i p : Nat} (hp : p < 144) (hc : cov c i p) : ∀ n, okTo X Y c n → i < n → gridN c n p = (i : Int) + 1
  | 0, _, h => absurd h (by omega)
  | n + 1, ho, h => by
    have e : gridN c (n + 1) p = if cov c n p then (n : Int) + 1 else gridN c n p := rfl
    rw [e]
    by_cases hcn : cov c n p
    · by_cases hin : i = n
      · subst hin; rw [if_pos hc]
      · have h1 := grid_of_cov hp hc n (fun j hj => ho j (by omega)) (by omega)
        have h2 := (ho n (by omega)).2.2 p hp hcn
        rw [h2] at h1; omega
    · rw [if_neg hcn]
      have : i ≠ n := fun e => hcn (e ▸ hc)
      exact grid_of_cov hp hc n (fun j hj => ho j (by omega)) (by omega)
theorem grid_nonneg (c : Nat → Int) (n p : Nat) : 0 ≤ gridN c n p ∧ gridN c n p ≤ n := by
  induction n with
  | zero => simp [gridN]
  | succ k ih =>
    have e : gridN c (k + 1) p = if cov c k p then (k : Int) + 1 else gridN c k p := rfl
    rw [e]
    split <;> omega
/-- two cells across from each other that have one slab have it in common with the other two. -/
theorem diag1 {X Y : Int} {c : Nat → Int} {n x y : Nat} (ho : okTo X Y c n) (hx : x + 1 < 12) (hy : y + 1 < 12) (hne : gridN c n (y * 12 + x) ≠ 0) (h : gridN c n (y * 12 + x) = gridN c n ((y + 1) * 12 + (x + 1))) : gridN c n (y * 12 + (x + 1)) = gridN c n (y * 12 + x) := by
  have hb := grid_nonneg c n (y * 12 + x)
  obtain ⟨i, hi⟩ : ∃ i : Nat, gridN c n (y * 12 + x) = (i : Int) + 1 := ⟨(gridN c n (y * 12 + x) - 1).toNat, by omega⟩
  obtain ⟨h1, h2⟩ := grid_cov n hi
  obtain ⟨_, h3⟩ := grid_cov n (h ▸ hi)
  have hc : cov c i (y * 12 + (x + 1)) := by
    unfold cov at h2 h3 ⊢
    rw [(cell_div (show x < 12 by omega)).1, (cell_div (show x < 12 by omega)).2] at h2
    rw [(cell_div hx).1, (cell_div hx).2] at h3 ⊢
    omega
  rw [hi]
  exact grid_of_cov (by omega) hc n ho h1
theorem diag2 {X Y : Int} {c : Nat → Int} {n x y : Nat} (ho : okTo X Y c n) (hx : x + 1 < 12) (hy : y + 1 < 12) (hne : gridN c n (y * 12 + (x + 1)) ≠ 0) (h : gridN c n (y * 12 + (x + 1)) = gridN c n ((y + 1) * 12 + x)) : gridN c n (y * 12 + x) = gridN c n (y * 12 + (x + 1)) := by
  have hb := grid_nonneg c n (y * 12 + (x + 1))
  obtain ⟨i, hi⟩ : ∃ i : Nat, gridN c n (y * 12 + (x + 1)) = (i : Int) + 1 := ⟨(gridN c n (y * 12 + (x + 1)) - 1).toNat, by omega⟩
  obtain ⟨h1, h2⟩ := grid_cov n hi
  obtain ⟨_, h3⟩ := grid_cov n (h ▸ hi)
  have hc : cov c i (y * 12 + x) := by
    unfold cov at h2 h3 ⊢
    rw [(cell_div hx).1, (cell_div hx).2] at h2
    rw [(cell_div (show x < 12 by omega)).1, (cell_div (show x < 12 by omega)).2] at h3 ⊢
    omega
  rw [hi]
  exact grid_of_cov (by omega) hc n ho h1

/-- do four slabs meet at the north west corner of a cell? -/
def crossB (G : Nat → Int) (q : Nat × Nat) : Bool :=
  jb (gA G ((q.1 : Int) - 1) ((q.2 : Int) - 1)) (gA G q.1 ((q.2 : Int) - 1)) && jb (gA G q.1 ((q.2 : Int) - 1)) (gA G q.1 q.2) && jb (gA G q.1 q.2) (gA G ((q.1 : Int) - 1) q.2) && jb (gA G ((q.1 : Int) - 1) q.2) (gA G ((q.1 : Int) - 1) ((q.2 : Int) - 1))
theorem jb_true {a b : Int} : jb a b = true ↔ a ≠ 0 ∧ b ≠ 0 ∧ a ≠ b := by unfold jb; simp [and_assoc]
theorem crossB_edge {G : Nat → Int} {x y : Nat} (h : x = 0 ∨ y = 0) : crossB G (x, y) = false := by
  rw [Bool.eq_false_iff]
  intro hc
  unfold crossB at hc
  simp only [Bool.and_eq_true, jb_true] at hc
  have : gA G ((x : Int) - 1) ((y : Int) - 1) = 0 := gA_out (by rcases h with h | h <;> omega)
  exact hc.1.1.1.1 this
/-- the four numbers at a corner, as the model lists them. -/
def four (G : Nat → Int) (x y : Nat) (j : Nat) : Int := if j = 0 then G (y * 12 + x) else if j = 1 then G (y * 12 + (x + 1)) else if j = 2 then G ((y + 1) * 12 + x) else G ((y + 1) * 12 + (x + 1))
def fine (f : Nat → Int) (i : Nat) : Prop := ∀ j, j < i → f j ≠ 0 ∧ ∀ k, k < j → f k ≠ f j
theorem crossB_iff {X Y : Int} {c : Nat → Int} {n x y : Nat} (ho : okTo X Y c n) (hx : x + 1 < 12) (hy : y + 1 < 12) : crossB (gridN c n) (x + 1, y + 1) = true ↔ fine (four (gridN c n) x y) 4 := by
  have e1 : ((x + 1 : Nat) : Int) - 1 = (x : Int) := by omega
  have e2 : ((y + 1 : Nat) : Int) - 1 = (y : Int) := by omega
  unfold crossB
  simp only [Bool.and_eq_true, jb_true]
  rw [e1, e2, gA_in _ x y (by omega) (by omega), gA_in _ (x + 1) y (by omega) (by omega), gA_in _ (x + 1) (y + 1) (by omega) (by omega), gA_in _ x (y + 1) (by omega) (by omega)]
  constructor
  · rintro ⟨⟨⟨⟨a1, a2, a3⟩, b1, b2, b3⟩, c1, c2, c3⟩, d1, d2, d3⟩
    have k1 : gridN c n (y * 12 + x) ≠ gridN c n ((y + 1) * 12 + (x + 1)) := fun e => a3 (diag1 ho hx hy a1 e).symm
    have k2 : gridN c n (y * 12 + (x + 1)) ≠ gridN c n ((y + 1) * 12 + x) := fun e => a3 (diag2 ho hx hy a2 e)
    intro j hj
    have hj' : j = 0 ∨ j = 1 ∨ j = 2 ∨ j = 3 := by omega
    rcases hj' with rfl | rfl | rfl | rfl
    · exact ⟨a1, fun k hk => absurd hk (by omega)⟩
    · refine ⟨a2, fun k hk => ?_⟩
      obtain rfl : k = 0 := by omega
      exact a3
    · refine ⟨c2, fun k hk => ?_⟩
      have hk' : k = 0 ∨ k = 1 := by omega
      rcases hk' with rfl | rfl
      · exact fun e => d3 e.symm
      · exact k2
    · refine ⟨c1, fun k hk => ?_⟩
      have hk' : k = 0 ∨ k = 1 ∨ k = 2 := by omega
      rcases hk' with rfl | rfl | rfl
      · exact k1
      · exact b3
      · exact fun e => c3 e.symm
  · intro h
    have h0 := h 0 (by omega)
    have h1 := h 1 (by omega)
    have h2 := h 2 (by omega)
    have h3 := h 3 (by omega)
    have a0 : gridN c n (y * 12 + x) ≠ 0 := h0.1
    have a1 : gridN c n (y * 12 + (x + 1)) ≠ 0 := h1.1
    have a2 : gridN c n ((y + 1) * 12 + x) ≠ 0 := h2.1
    have a3 : gridN c n ((y + 1) * 12 + (x + 1)) ≠ 0 := h3.1
    have b01 : gridN c n (y * 12 + x) ≠ gridN c n (y * 12 + (x + 1)) := h1.2 0 (by omega)
    have b02 : gridN c n (y * 12 + x) ≠ gridN c n ((y + 1) * 12 + x) := h2.2 0 (by omega)
    have b13 : gridN c n (y * 12 + (x + 1)) ≠ gridN c n ((y + 1) * 12 + (x + 1)) := h3.2 1 (by omega)
    have b23 : gridN c n ((y + 1) * 12 + x) ≠ gridN c n ((y + 1) * 12 + (x + 1)) := h3.2 2 (by omega)
    exact ⟨⟨⟨⟨a0, a1, b01⟩, a1, a3, b13⟩, a3, a2, fun e => b23 e.symm⟩, a2, a0, fun e => b02 e.symm⟩
end Go.Proofs.YtmkcdelfgaogaaaDoor
