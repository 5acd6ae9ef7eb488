/-
  Some sorts of setts, told by the bits of a number. No condition.
-/
import Derived.Test.YtjeccdmhpbaabaaRows
import Derived.Test.YtjeccdmhpbaabaaOwnSett
namespace Go.Proofs.Ytjeccdmhpbaabaa
open Go Go.ChangeShapes Go.WideShapes Go.ChangeAt Go.RowKit
set_option linter.unusedVariables false
set_option linter.unusedSimpArgs false

/-- the sorts below n whose bits are set. -/
def selL (s n : Nat) : List Nat := (List.range n).filter fun i => s.testBit i
theorem selL_succ (s n : Nat) : selL s (n + 1) = selL s n ++ (if s.testBit n then [n] else []) := by
  unfold selL
  rw [List.range_succ, List.filter_append]
  congr 1
  by_cases h : s.testBit n <;> simp [h]
theorem selL_le (s n : Nat) : (selL s n).length ≤ n := by
  unfold selL
  refine Nat.le_trans (List.length_filter_le _ _) ?_
  simp
theorem selL_lt {s n i : Nat} (h : i ∈ selL s n) : i < n := by
  unfold selL at h
  exact List.mem_range.1 (List.mem_filter.1 h).1
theorem getD_left (l m : List Nat) (j : Nat) (h : j < l.length) : (l ++ m).getD j 0 = l.getD j 0 := by
  rw [List.getD_eq_getElem?_getD, List.getD_eq_getElem?_getD, List.getElem?_append_left h]
theorem getD_end (l : List Nat) (x : Nat) : (l ++ [x]).getD l.length 0 = x := by
  rw [List.getD_eq_getElem?_getD, List.getElem?_append_right (Nat.le_refl _), Nat.sub_self]
  rfl
def atL (l : List Nat) (c : Nat → Int) (j : Nat) : Int := c (l.getD j 0)
theorem settsV_snoc (l : List Nat) (x : Nat) (c d : Nat → Int) : settsV (l.length + 1) (atL (l ++ [x]) c) (atL (l ++ [x]) d) = settsV l.length (atL l c) (atL l d) ++ [.int .i8 (c x), .int .i16 (d x)] := by
  apply List.ext_getElem?
  intro i
  by_cases h : i < l.length * 2
  · rw [List.getElem?_append_left (by rw [settsV_length]; exact h), settsV_get h, settsV_get (by omega)]
    unfold atL
    rw [getD_left _ _ _ (show i / 2 < l.length by omega)]
  · rw [List.getElem?_append_right (by rw [settsV_length]; omega), settsV_length]
    by_cases h0 : i = l.length * 2
    · subst h0
      rw [settsV_get (by omega), if_pos (by omega), Nat.mul_div_cancel _ (by decide)]
      unfold atL
      rw [getD_end]
      rw [Nat.sub_self]; rfl
    · by_cases h1 : i = l.length * 2 + 1
      · subst h1
        rw [settsV_get (by omega), if_neg (by omega), show l.length * 2 + 1 - l.length * 2 = 1 by omega, show (l.length * 2 + 1) / 2 = l.length by omega]
        unfold atL
        rw [getD_end]
        rfl
      · rw [List.getElem?_eq_none (by rw [settsV_length]; omega), List.getElem?_eq_none (by simp; omega)]
/-- a slice of those sorts that a call owns. -/
def OwnL (w : World) (base : Nat) (v : Value) (l : List Nat) (c d : Nat → Int) : Prop := w.ownsRow base 89 2 v l.length (settsV l.length (atL l c) (atL l d))
theorem OwnL.rd {w : World} {base : Nat} {v : Value} {l : List Nat} {c d : Nat → Int} (h : OwnL w base v l c d) : ∃ A cap, v = .slice A l.length cap ∧ RdS w w.heap.size A l.length (atL l c) (atL l d) := by
  rcases h.2 with ⟨rfl, h0⟩ | ⟨g, cap, cur, rfl, hb, hg, _⟩
  · exact ⟨none, 0, by rw [h0], fun h => by omega⟩
  · refine ⟨_, cap, rfl, fun h0 => ⟨g, 0, rfl, (Array.getElem?_eq_some_iff.1 hg).1, fun j hj => ?_⟩⟩
    obtain ⟨g', cap', e, _, hA⟩ := setts_own (show 1 ≤ l.length by omega) h
    injection e with e _ _
    injection e with e
    injection e with e
    subst e
    rw [Nat.zero_add]
    exact (hA.2 j hj).1
theorem OwnL.below {w w' : World} {base : Nat} {v : Value} {l : List Nat} {c d : Nat → Int} (h : OwnL w base v l c d) (hb : Below w.heap.size w w') : OwnL w' base v l c d := by
  refine ⟨h.1, h.2.imp id ?_⟩
  rintro ⟨g, cap, cur, rfl, hg, hw, r⟩
  exact ⟨g, cap, cur, rfl, hg, (hb.block g (Array.getElem?_eq_some_iff.1 hw).1).trans hw, r⟩
theorem OwnL.snoc {w : World} {base : Nat} {v : Value} {l : List Nat} {x : Nat} {c d : Nat → Int} (h : w.ownsRow base 89 2 v (l.length + 1) (settsV l.length (atL l c) (atL l d) ++ [.int .i8 (c x), .int .i16 (d x)])) : OwnL w base v (l ++ [x]) c d := by
  unfold OwnL
  rw [List.length_append, List.length_singleton, settsV_snoc]
  exact h
end Go.Proofs.Ytjeccdmhpbaabaa
