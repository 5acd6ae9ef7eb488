/-
  The contract of spec.l01Lift: a square's slabs but one. Conditions stand at each.
-/
import Derived.Test.YtkdakpbkpfigeaaRows
import Derived.Test.YtkdakpbkpfigeaaCells
import Derived.Test.YtkdakpbkpfigeaaRes
import Derived.Test.YtkdakpbkpfigeaaWhole
import Derived.StillTailTactics
import Derived.Deep.RegionHeld3
import Derived.Deep.RegionHeldLaw
import Derived.Deep.RegionLaw
import Derived.BigRegion
namespace Go.Proofs.Ytkdakpbkpfigeaa
open Go Go.ChangeShapes Go.WideShapes Go.ChangeAt Go.RowKit
set_option linter.unusedVariables false
set_option linter.unusedSimpArgs false
set_option maxRecDepth 100000
set_option maxHeartbeats 2000000

def fourV (c : Nat → Int) (i : Nat) : List Value := [.int .i8 (c (4 * i)), .int .i8 (c (4 * i + 1)), .int .i8 (c (4 * i + 2)), .int .i8 (c (4 * i + 3))]
/-- the cells of the first slabs but one. -/
def liftV (c : Nat → Int) (k : Nat) : Nat → List Value
  | 0 => []
  | i + 1 => if i = k then liftV c k i else liftV c k i ++ fourV c i
def liftN (k i : Nat) : Nat := if i ≤ k then i else i - 1
theorem liftV_length (c : Nat → Int) (k : Nat) : ∀ i, (liftV c k i).length = liftN k i * 4
  | 0 => by simp [liftV, liftN]
  | i + 1 => by
    have ih := liftV_length c k i
    unfold liftV
    unfold liftN at ih ⊢
    by_cases h : i = k
    · rw [if_pos h, ih]
      split <;> split <;> omega
    · rw [if_neg h, List.length_append, ih]
      simp only [fourV, List.length_cons, List.length_nil]
      split <;> split <;> omega
def liftF (c : Nat → Int) (k j : Nat) : Int := if j < 4 * k then c j else c (j + 4)
theorem liftV_get (c : Nat → Int) (k : Nat) : ∀ i j, j < liftN k i * 4 → (liftV c k i)[j]? = some (.int .i8 (liftF c k j))
  | 0, j, h => by simp [liftN] at h
  | i + 1, j, h => by
    have ih := liftV_get c k i
    have hl := liftV_length c k i
    unfold liftV
    by_cases hk : i = k
    · rw [if_pos hk]
      exact ih j (by unfold liftN at h ⊢; split at h <;> split <;> omega)
    · rw [if_neg hk]
      by_cases hj : j < liftN k i * 4
      · rw [List.getElem?_append_left (by omega)]
        exact ih j hj
      · rw [List.getElem?_append_right (by omega), hl]
        have hN : liftN k (i + 1) = liftN k i + 1 := by unfold liftN; split <;> split <;> omega
        rw [hN] at h
        have hd4 : j - liftN k i * 4 < 4 := by omega
        have e : liftF c k j = c (4 * i + (j - liftN k i * 4)) := by
          unfold liftF
          by_cases h1 : i ≤ k
          · have e1 : liftN k i = i := if_pos h1
            rw [e1] at hj h ⊢
            rw [if_pos (by omega)]
            congr 1; omega
          · have e1 : liftN k i = i - 1 := if_neg h1
            rw [e1] at hj h ⊢
            rw [if_neg (by omega)]
            congr 1; omega
        rw [e]
        rcases (show j - liftN k i * 4 = 0 ∨ j - liftN k i * 4 = 1 ∨ j - liftN k i * 4 = 2 ∨ j - liftN k i * 4 = 3 by omega) with e | e | e | e <;> rw [e] <;> rfl

def OwnS (w : World) (base : Nat) (v : Value) (m : Nat) (L : List Value) : Prop := w.ownsRow base 110 4 v m L

theorem OwnS.set {w : World} {base m b o : Nat} {v u : Value} {L : List Value} (h : OwnS w base v m L) (hb : b < base) : OwnS (w.setCell ⟨b, o, none⟩ u) base v m L := by
  refine ⟨h.1, h.2.imp id ?_⟩
  rintro ⟨g, cap, cur, h1, h2, h3, h4⟩
  exact ⟨g, cap, cur, h1, h2, (Below.heap_setCell w _ _ _ (by show g ≠ b; omega)).trans h3, h4⟩
/-- what the loads of a round read. -/
def KS (bq g i n : Nat) (c : Nat → Int) (w : World) : Prop :=
  bq < w.heap.size ∧ g < w.heap.size ∧ w.cell? ⟨bq, 2, none⟩ = some (.slice (some ⟨g, 0, none⟩) n n) ∧ w.cell? ⟨g, i * 4, none⟩ = some (.int .i8 (c (i * 4))) ∧ w.cell? ⟨g, i * 4 + 1, none⟩ = some (.int .i8 (c (i * 4 + 1))) ∧ w.cell? ⟨g, i * 4 + 2, none⟩ = some (.int .i8 (c (i * 4 + 2))) ∧ w.cell? ⟨g, i * 4 + 3, none⟩ = some (.int .i8 (c (i * 4 + 3)))
theorem KS.of_blocks {bq g i n : Nat} {c : Nat → Int} {w w' : World} (h : KS bq g i n c w) (hs : w.heap.size ≤ w'.heap.size) (e1 : w'.heap[bq]? = w.heap[bq]?) (e2 : w'.heap[g]? = w.heap[g]?) : KS bq g i n c w' := by
  obtain ⟨h1, h2, h3, h4, h5, h6, h7⟩ := h
  exact ⟨Nat.lt_of_lt_of_le h1 hs, Nat.lt_of_lt_of_le h2 hs, (World.cell?_of_block (w := w) e1).trans h3, (World.cell?_of_block (w := w) e2).trans h4, (World.cell?_of_block (w := w) e2).trans h5, (World.cell?_of_block (w := w) e2).trans h6, (World.cell?_of_block (w := w) e2).trans h7⟩
theorem KS.alloc {bq g i n : Nat} {c : Nat → Int} {w : World} (h : KS bq g i n c w) (o : Obj) : KS bq g i n c (w.alloc o) := h.of_blocks (by simp) (Below.heap_alloc w o bq h.1) (Below.heap_alloc w o g h.2.1)
theorem KS.grown {bq g i n : Nat} {c : Nat → Int} {w w' : World} {r : Option Nat} (h : KS bq g i n c w) (hg : w.grownBy w' r) (h1 : some bq ≠ r) (h2 : some g ≠ r) : KS bq g i n c w' := h.of_blocks hg.size (hg.block _ h.1 h1) (hg.block _ h.2.1 h2)
theorem KS.set {bq g i n b o : Nat} {c : Nat → Int} {w : World} {v : Value} (h : KS bq g i n c w) (h1 : bq ≠ b) (h2 : g ≠ b) : KS bq g i n c (w.setCell ⟨b, o, none⟩ v) := h.of_blocks (by simp) (Below.heap_setCell w _ _ _ h1) (Below.heap_setCell w _ _ _ h2)
