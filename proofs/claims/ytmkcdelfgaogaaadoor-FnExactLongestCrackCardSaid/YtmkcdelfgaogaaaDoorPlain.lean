/-
  Plain mathematics of valid squares: slabs are laid one by one on 12 times 12 cells. It names no program.
-/
namespace Go.Proofs.YtmkcdelfgaogaaaDoor

/-- slab i (four numbers of c: its x, y, width, height) covers the cell p = 12 y + x. -/
def cov (c : Nat → Int) (i p : Nat) : Prop :=
  c (4 * i) ≤ ((p % 12 : Nat) : Int) ∧ ((p % 12 : Nat) : Int) < c (4 * i) + c (4 * i + 2) ∧ c (4 * i + 1) ≤ ((p / 12 : Nat) : Int) ∧ ((p / 12 : Nat) : Int) < c (4 * i + 1) + c (4 * i + 3)
instance (c : Nat → Int) (i p : Nat) : Decidable (cov c i p) := by unfold cov; infer_instance

/-- the numbers (index plus one) of the first k slabs on the cells; 0: none. -/
def gridN (c : Nat → Int) : Nat → Nat → Int
  | 0, _ => 0
  | k + 1, p => if cov c k p then (k : Int) + 1 else gridN c k p

def lies (X Y : Int) (c : Nat → Int) (i : Nat) : Prop :=
  0 ≤ c (4 * i) ∧ 0 ≤ c (4 * i + 1) ∧ 1 ≤ c (4 * i + 2) ∧ 1 ≤ c (4 * i + 3) ∧ c (4 * i) + c (4 * i + 2) ≤ X ∧ c (4 * i + 1) + c (4 * i + 3) ≤ Y
instance (X Y : Int) (c : Nat → Int) (i : Nat) : Decidable (lies X Y c i) := by unfold lies; infer_instance

def befo (c : Nat → Int) (i : Nat) : Prop :=
  c (4 * i + 1) < c (4 * (i + 1) + 1) ∨ (c (4 * i + 1) = c (4 * (i + 1) + 1) ∧ c (4 * i) < c (4 * (i + 1)))
instance (c : Nat → Int) (i : Nat) : Decidable (befo c i) := by unfold befo; infer_instance

def opn (c : Nat → Int) (i : Nat) : Prop := ∀ p, p < 144 → cov c i p → gridN c i p = 0
def okAt (X Y : Int) (c : Nat → Int) (i : Nat) : Prop := lies X Y c i ∧ (∀ j, i = j + 1 → befo c j) ∧ opn c i
def okTo (X Y : Int) (c : Nat → Int) (k : Nat) : Prop := ∀ i, i < k → okAt X Y c i
def Valid (X Y : Int) (n : Nat) (c : Nat → Int) : Prop := 1 ≤ X ∧ X ≤ 12 ∧ 1 ≤ Y ∧ Y ≤ 12 ∧ n ≤ 60 ∧ okTo X Y c n

theorem okTo.step {X Y : Int} {c : Nat → Int} {k : Nat} (h : okTo X Y c k) (h1 : okAt X Y c k) : okTo X Y c (k + 1) := fun i hi => by
  by_cases e : i = k
  · subst e; exact h1
  · exact h i (by omega)
theorem okTo.zero (X Y : Int) (c : Nat → Int) : okTo X Y c 0 := fun i hi => absurd hi (by omega)

/-- what is laid of slab i when the cell (y, x) is reached. -/
def part (c : Nat → Int) (i y x p : Nat) : Prop := cov c i p ∧ (p / 12 < y ∨ (p / 12 = y ∧ p % 12 < x))
instance (c : Nat → Int) (i y x p : Nat) : Decidable (part c i y x p) := by unfold part; infer_instance
/-- the grid at that moment. -/
def gridP (c : Nat → Int) (i y x p : Nat) : Int := if part c i y x p then (i : Int) + 1 else gridN c i p
/-- no cell so far was covered. -/
def opnP (c : Nat → Int) (i y x : Nat) : Prop := ∀ p, p < 144 → part c i y x p → gridN c i p = 0

theorem cell_div {y x : Nat} (hx : x < 12) : (y * 12 + x) / 12 = y ∧ (y * 12 + x) % 12 = x := by omega

section
variable {X Y : Int} {c : Nat → Int} {i y x : Nat}

theorem part_start (hy : (y : Int) = c (4 * i + 1)) (p : Nat) : ¬ part c i y 0 p := by
  rintro ⟨⟨_, _, h3, _⟩, h | ⟨_, h⟩⟩ <;> omega
theorem gridP_start (hy : (y : Int) = c (4 * i + 1)) (p : Nat) : gridP c i y 0 p = gridN c i p := if_neg (part_start hy p)
theorem opnP_start (hy : (y : Int) = c (4 * i + 1)) : opnP c i y 0 := fun p _ hp => absurd hp (part_start hy p)

/-- the row begins at the slab's x: nothing of it is before. -/
theorem part_row (hx : (x : Int) = c (4 * i)) (p : Nat) : part c i y x p ↔ part c i y 0 p := by
  constructor
  · rintro ⟨⟨h1, h2, h3, h4⟩, h | ⟨_, h⟩⟩
    · exact ⟨⟨h1, h2, h3, h4⟩, .inl h⟩
    · omega
  · rintro ⟨h0, h | ⟨_, h⟩⟩
    · exact ⟨h0, .inl h⟩
    · omega
theorem gridP_row (hx : (x : Int) = c (4 * i)) (p : Nat) : gridP c i y x p = gridP c i y 0 p := by unfold gridP; simp only [part_row hx]
theorem opnP_row (hx : (x : Int) = c (4 * i)) (h : opnP c i y 0) : opnP c i y x := fun p hp hq => h p hp ((part_row hx p).1 hq)
/-- the row is over. -/
theorem part_next (hx : (x : Int) = c (4 * i) + c (4 * i + 2)) (p : Nat) : part c i (y + 1) 0 p ↔ part c i y x p := by
  constructor
  · rintro ⟨⟨h1, h2, h3, h4⟩, h | ⟨_, h⟩⟩
    · refine ⟨⟨h1, h2, h3, h4⟩, ?_⟩
      by_cases e : p / 12 = y
      · exact .inr ⟨e, by omega⟩
      · exact .inl (by omega)
    · omega
  · rintro ⟨h0, h | ⟨h, _⟩⟩
    · exact ⟨h0, .inl (by omega)⟩
    · exact ⟨h0, .inl (by omega)⟩
theorem gridP_next (hx : (x : Int) = c (4 * i) + c (4 * i + 2)) (p : Nat) : gridP c i (y + 1) 0 p = gridP c i y x p := by unfold gridP; simp only [part_next hx]
theorem opnP_next (hx : (x : Int) = c (4 * i) + c (4 * i + 2)) (h : opnP c i y x) : opnP c i (y + 1) 0 := fun p hp hq => h p hp ((part_next hx p).1 hq)

/-- one cell more. -/
theorem part_cell (hx : x < 12) (h1 : c (4 * i) ≤ (x : Int)) (h2 : (x : Int) < c (4 * i) + c (4 * i + 2)) (h3 : c (4 * i + 1) ≤ (y : Int)) (h4 : (y : Int) < c (4 * i + 1) + c (4 * i + 3)) (p : Nat) :
    part c i y (x + 1) p ↔ p = y * 12 + x ∨ part c i y x p := by
  constructor
  · rintro ⟨h0, h | ⟨h, h'⟩⟩
    · exact .inr ⟨h0, .inl h⟩
    · by_cases e : p % 12 = x
      · exact .inl (by omega)
      · exact .inr ⟨h0, .inr ⟨h, by omega⟩⟩
  · rintro (rfl | ⟨h0, h | ⟨h, h'⟩⟩)
    · obtain ⟨e1, e2⟩ := cell_div (y := y) hx
      refine ⟨⟨?_, ?_, ?_, ?_⟩, .inr ⟨e1, ?_⟩⟩ <;> (try rw [e2]) <;> (try rw [e1]) <;> omega
    · exact ⟨h0, .inl h⟩
    · exact ⟨h0, .inr ⟨h, by omega⟩⟩
theorem not_part_self (hx : x < 12) : ¬ part c i y x (y * 12 + x) := by
  obtain ⟨e1, e2⟩ := cell_div (y := y) hx
  rintro ⟨_, h | ⟨_, h⟩⟩ <;> omega
theorem gridP_self (hx : x < 12) : gridP c i y x (y * 12 + x) = gridN c i (y * 12 + x) := if_neg (not_part_self hx)
theorem gridP_cell (hx : x < 12) (h1 : c (4 * i) ≤ (x : Int)) (h2 : (x : Int) < c (4 * i) + c (4 * i + 2)) (h3 : c (4 * i + 1) ≤ (y : Int)) (h4 : (y : Int) < c (4 * i + 1) + c (4 * i + 3)) (p : Nat) :
    gridP c i y (x + 1) p = if p = y * 12 + x then (i : Int) + 1 else gridP c i y x p := by
  unfold gridP
  by_cases e : p = y * 12 + x
  · rw [if_pos e, if_pos ((part_cell hx h1 h2 h3 h4 p).2 (.inl e))]
  · rw [if_neg e]
    by_cases h : part c i y x p
    · rw [if_pos h, if_pos ((part_cell hx h1 h2 h3 h4 p).2 (.inr h))]
    · rw [if_neg h, if_neg (fun h' => ((part_cell hx h1 h2 h3 h4 p).1 h').elim e h)]
theorem opnP_cell (hx : x < 12) (h1 : c (4 * i) ≤ (x : Int)) (h2 : (x : Int) < c (4 * i) + c (4 * i + 2)) (h3 : c (4 * i + 1) ≤ (y : Int)) (h4 : (y : Int) < c (4 * i + 1) + c (4 * i + 3)) (h : opnP c i y x) (h0 : gridN c i (y * 12 + x) = 0) : opnP c i y (x + 1) := fun p hp hq => by
  rcases (part_cell hx h1 h2 h3 h4 p).1 hq with rfl | hq
  · exact h0
  · exact h p hp hq
theorem cov_self (hx : x < 12) (h1 : c (4 * i) ≤ (x : Int)) (h2 : (x : Int) < c (4 * i) + c (4 * i + 2)) (h3 : c (4 * i + 1) ≤ (y : Int)) (h4 : (y : Int) < c (4 * i + 1) + c (4 * i + 3)) : cov c i (y * 12 + x) := by
  obtain ⟨e1, e2⟩ := cell_div (y := y) hx
  refine ⟨?_, ?_, ?_, ?_⟩ <;> (try rw [e2]) <;> (try rw [e1]) <;> omega

/-- all rows are over. -/
theorem part_end (hy : (y : Int) = c (4 * i + 1) + c (4 * i + 3)) (p : Nat) : part c i y 0 p ↔ cov c i p := by
  constructor
  · rintro ⟨h0, _⟩; exact h0
  · intro h0
    obtain ⟨h1, h2, h3, h4⟩ := h0
    exact ⟨⟨h1, h2, h3, h4⟩, .inl (by omega)⟩
theorem gridP_end (hy : (y : Int) = c (4 * i + 1) + c (4 * i + 3)) (p : Nat) : gridP c i y 0 p = gridN c (i + 1) p := by
  unfold gridP
  show _ = if cov c i p then (i : Int) + 1 else gridN c i p
  simp only [part_end hy]
theorem opn_end (hy : (y : Int) = c (4 * i + 1) + c (4 * i + 3)) (h : opnP c i y 0) : opn c i := fun p hp hq => h p hp ((part_end hy p).2 hq)
end
end Go.Proofs.YtmkcdelfgaogaaaDoor
