/-
  Lists of slabs: one slab put to its place among sorted ones; the cells that a list takes. It names no program but the slabs' type.
-/
import Derived.Test.YtkdakpbkpfigeaaRows
import Derived.Test.YtkdakpbkpfigeaaSort
namespace Go.Proofs.Ytkdakpbkpfigeaa
open Go Go.ChangeShapes Go.WideShapes Go.ChangeAt Go.RowKit
set_option linter.unusedVariables false
set_option linter.unusedSimpArgs false

theorem toL_succ (f : Nat → Int) (i : Nat) : toL f (i + 1) = toL f i ++ [s4 f i] := by unfold toL; rw [List.range_succ, List.map_append]; rfl

theorem insert_sorted {D L : List S4} {x : S4} {k : Nat} (h : SortedOf D L) (hk : k ≤ L.length) (h1 : ∀ j (hj : j < L.length), k ≤ j → bfr x L[j]) (h2 : ∀ j (hj : j < L.length), j + 1 = k → ¬ bfr x L[j]) :
    SortedOf (D ++ [x]) (L.take k ++ x :: L.drop k) := by
  refine ⟨?_, ?_⟩
  · have e : (L.take k ++ x :: L.drop k).Perm (x :: L) := by
      have := (List.perm_middle (a := x) (l₁ := L.take k) (l₂ := L.drop k))
      rwa [List.take_append_drop] at this
    exact e.trans ((List.Perm.cons x h.1).trans (List.perm_append_singleton x D).symm)
  · have hp := h.2
    have hsplit := hp
    rw [← List.take_append_drop k L, List.pairwise_append] at hsplit
    obtain ⟨ht, hd, hc⟩ := hsplit
    rw [List.pairwise_append]
    refine ⟨ht, List.pairwise_cons.2 ⟨fun y hy => ?_, hd⟩, fun a ha b hb => ?_⟩
    · obtain ⟨j, hj, e⟩ := List.getElem_of_mem hy
      rw [List.getElem_drop] at e
      have hl : k + j < L.length := by rw [List.length_drop] at hj; omega
      have := h1 (k + j) hl (by omega)
      rw [e] at this
      unfold bfr at this ⊢
      omega
    · rcases List.mem_cons.1 hb with rfl | hb
      · obtain ⟨j, hj, e⟩ := List.getElem_of_mem ha
        rw [List.getElem_take] at e
        rw [List.length_take] at hj
        have hj' : j < L.length := by omega
        have hk1 : k - 1 < L.length := by omega
        have hx := h2 (k - 1) hk1 (by omega)
        by_cases ej : j = k - 1
        · subst ej; rw [← e]; exact hx
        · have hy := (List.pairwise_iff_getElem.1 hp) j (k - 1) hj' hk1 (by omega)
          rw [← e]
          unfold bfr at hx hy ⊢
          omega
      · exact hc a ha b hb

/-- the cells of a list of slabs. -/
def encL (L : List S4) : List Value := L.flatMap encS
theorem encL_append (L M : List S4) : encL (L ++ M) = encL L ++ encL M := List.flatMap_append
theorem encL_length (L : List S4) : (encL L).length = L.length * 4 := by
  induction L with
  | nil => rfl
  | cons a L ih => show (encS a ++ encL L).length = _; rw [List.length_append, ih]; simp [encS]; omega
theorem encL_take {L : List S4} {k : Nat} (h : k ≤ L.length) : (encL L).take (k * 4) = encL (L.take k) := by
  have e : encL L = encL (L.take k) ++ encL (L.drop k) := by rw [← encL_append, List.take_append_drop]
  rw [e]
  exact List.take_left' (by rw [encL_length, List.length_take]; omega)
theorem encL_drop {L : List S4} {k : Nat} (h : k ≤ L.length) : (encL L).drop (k * 4) = encL (L.drop k) := by
  have e : encL L = encL (L.take k) ++ encL (L.drop k) := by rw [← encL_append, List.take_append_drop]
  rw [e]
  exact List.drop_left' (by rw [encL_length, List.length_take]; omega)
theorem encL_one : ∀ (L : List S4), ∀ u ∈ encL L, u.oneCell' = true := by
  intro L u hu
  obtain ⟨s, _, hs⟩ := List.mem_flatMap.1 hu
  simp [encS] at hs
  rcases hs with rfl | rfl | rfl | rfl <;> rfl
theorem encL_get : ∀ (L : List S4) (j : Nat), j < 4 * L.length → (encL L)[j]? = some (.int .i8 (fL L j))
  | [], j, h => by simp at h
  | a :: L, j, h => by
    show (encS a ++ encL L)[j]? = _
    by_cases hj : j < 4
    · rw [List.getElem?_append_left (by simp [encS]; omega)]
      unfold fL
      rw [show j / 4 = 0 by omega, show j % 4 = j by omega]
      have : j = 0 ∨ j = 1 ∨ j = 2 ∨ j = 3 := by omega
      rcases this with rfl | rfl | rfl | rfl <;> rfl
    · rw [List.getElem?_append_right (by simp [encS]; omega)]
      have e : j - (encS a).length = j - 4 := by simp [encS]
      rw [e, encL_get L (j - 4) (by simp at h; omega)]
      unfold fL
      rw [show j / 4 = (j - 4) / 4 + 1 by omega, show (j - 4) % 4 = j % 4 by omega]
      rfl
theorem encL_at {L : List S4} {i : Nat} (hi : i < L.length) : (encL L)[i * 4]? = some (.int .i8 L[i].1) ∧ (encL L)[i * 4 + 1]? = some (.int .i8 L[i].2.1) ∧ (encL L)[i * 4 + 2]? = some (.int .i8 L[i].2.2.1) ∧ (encL L)[i * 4 + 3]? = some (.int .i8 L[i].2.2.2) := by
  refine ⟨?_, ?_, ?_, ?_⟩
  · have := encL_get L (i * 4 + 0) (by omega)
    rw [fL_at hi (by omega)] at this
    exact this
  · rw [encL_get L _ (by omega), fL_at hi (by omega)]; rfl
  · rw [encL_get L _ (by omega), fL_at hi (by omega)]; rfl
  · rw [encL_get L _ (by omega), fL_at hi (by omega)]; rfl

/-- the slice go[0:m] is the call's own, and holds L. -/
def OwnQ (w : World) (base go cap : Nat) (L : List S4) : Prop := w.ownsRow base 110 4 (.slice (some ⟨go, 0, none⟩) L.length cap) L.length (encL L)
section
variable {w w' : World} {base go cap : Nat} {L : List S4}
theorem OwnQ.kept {r : Option Nat} (h : OwnQ w base go cap L) (hg : w.grownBy w' r) (hne : some go ≠ r) : OwnQ w' base go cap L := World.ownsRow.kept h hg (.inr hne)
theorem OwnQ.below (h : OwnQ w base go cap L) (hb : Below w.heap.size w w') : OwnQ w' base go cap L := by
  refine ⟨h.1, h.2.imp id ?_⟩
  rintro ⟨g, cap, cur, h1, h2, h3, h4⟩
  exact ⟨g, cap, cur, h1, h2, (hb.block g (Array.getElem?_eq_some_iff.1 h3).1).trans h3, h4⟩
theorem OwnQ.alloc (h : OwnQ w base go cap L) (o : Obj) : OwnQ (w.alloc o) base go cap L := World.ownsRow.alloc h o
theorem OwnQ.bd (h : OwnQ w base go cap L) : base ≤ go ∧ go < w.heap.size := World.ownsRow.lt h go rfl
theorem OwnQ.le (h : OwnQ w base go cap L) : L.length ≤ cap := by
  rcases h.2 with ⟨h', _⟩ | ⟨g', cap', cur, h', _, _, hl, _⟩
  · simp at h'
  · simp only [Value.slice.injEq, Option.some.injEq, Addr.mk.injEq, and_true, true_and] at h'
    omega
theorem OwnQ.at (h : OwnQ w base go cap L) {i : Nat} (hi : i < L.length) : w.cell? ⟨go, i * 4, none⟩ = some (.int .i8 L[i].1) ∧ w.cell? ⟨go, i * 4 + 1, none⟩ = some (.int .i8 L[i].2.1) ∧ w.cell? ⟨go, i * 4 + 2, none⟩ = some (.int .i8 L[i].2.2.1) ∧ w.cell? ⟨go, i * 4 + 3, none⟩ = some (.int .i8 L[i].2.2.2) := by
  obtain ⟨a, b, c, d⟩ := encL_at hi
  exact ⟨(World.ownsRow.cellAt h _ (by omega)).trans a, (World.ownsRow.cellAt h _ (by omega)).trans b, (World.ownsRow.cellAt h _ (by omega)).trans c, (World.ownsRow.cellAt h _ (by omega)).trans d⟩
theorem OwnQ.cells (h : OwnQ w base go cap L) {j : Nat} (hj : j < L.length * 4) : w.cell? ⟨go, j, none⟩ = (encL L)[j]? := World.ownsRow.cellAt h j hj
theorem OwnQ.take (h : OwnQ w base go cap L) {k : Nat} (hk : k ≤ L.length) : w.ownsRow base 110 4 (.slice (some ⟨go, 0, none⟩) k cap) k (encL (L.take k)) := by
  refine ⟨by rw [encL_length, List.length_take]; congr 1; omega, ?_⟩
  rcases h.2 with ⟨h', _⟩ | ⟨g', cap', cur, h', hb, hg, hl, hm, hs, ht⟩
  · simp at h'
  · simp only [Value.slice.injEq, Option.some.injEq, Addr.mk.injEq, and_true, true_and] at h'
    obtain ⟨rfl, rfl⟩ := h'
    refine .inr ⟨_, _, cur, rfl, hb, hg, by omega, hm, hs, ?_⟩
    rw [← encL_take hk, ← ht, List.take_take, Nat.min_eq_left (by omega)]
theorem OwnQ.of (h : w.ownsRow base 110 4 (.slice (some ⟨go, 0, none⟩) L.length cap) L.length (encL L)) : OwnQ w base go cap L := h
theorem OwnQ.has (h : OwnQ w base go cap L) : HasSlice .i8 4 w base (.slice (some ⟨go, 0, none⟩) L.length cap) L.length (fL L) := own_has h (fun j hj => encL_get L j hj)
end
/-- an owned slice that is not nil lies in a block. -/
theorem own_block {w : World} {base n : Nat} {v : Value} {xs : List Value} (h : w.ownsRow base 110 4 v n xs) (hv : v ≠ .slice none 0 0) : ∃ go cap, v = .slice (some ⟨go, 0, none⟩) n cap := by
  rcases h.2 with ⟨h', _⟩ | ⟨g', cap', cur, h', _⟩
  · exact absurd h' hv
  · exact ⟨g', cap', h'⟩
end Go.Proofs.Ytkdakpbkpfigeaa
