/-
  The fewest stacks: the mathematics. Conditions stand at each.
-/
import Derived.Test.YtkggimalkjjnoaaRows
import Derived.Test.YtkggimalkjjnoaaYardM
namespace Go.Proofs.Ytkggimalkjjnoaa
open Go Go.ChangeShapes Go.WideShapes Go.ChangeAt Go.RowKit
set_option linter.unusedVariables false
set_option linter.unusedSimpArgs false
set_option maxRecDepth 100000
set_option maxHeartbeats 4000000
/-- the place of a slab among stacks with these uppermost slabs. -/
def fsAt (T : List Int) (x : Int) : Nat := T.findIdx fun t => decide (x ≤ t)
def fsTo (T : List Int) (x : Int) : List Int := if fsAt T x = T.length then T ++ [x] else T.set (fsAt T x) x
def fsT (f : Nat → Int) : Nat → List Int
  | 0 => []
  | k + 1 => fsTo (fsT f k) (f k)
def fsA (f : Nat → Int) (k : Nat) : Nat := fsAt (fsT f k) (f k)
def fsS (f : Nat → Int) (k : Nat) : Int := (fsA f k : Int)
def fsL (f : Nat → Int) (k : Nat) : List Int := (List.range k).map (fsS f)
theorem fsL_length (f : Nat → Int) (k : Nat) : (fsL f k).length = k := by simp [fsL]
theorem fsL_succ (f : Nat → Int) (k : Nat) : fsL f (k + 1) = fsL f k ++ [fsS f k] := by simp [fsL, List.range_succ]
theorem fsAt_le (T : List Int) (x : Int) : fsAt T x ≤ T.length := List.findIdx_le_length
theorem fsAt_lt {T : List Int} {x : Int} {j : Nat} (h : j < fsAt T x) : ∃ t, T[j]? = some t ∧ t < x := by
  have hl : j < T.length := Nat.lt_of_lt_of_le h (fsAt_le T x)
  refine ⟨T[j], List.getElem?_eq_getElem hl, ?_⟩
  have := List.not_of_lt_findIdx h
  simp at this
  omega
theorem fsAt_at {T : List Int} {x : Int} (h : fsAt T x < T.length) : ∃ t, T[fsAt T x]? = some t ∧ x ≤ t := by
  refine ⟨T[fsAt T x], List.getElem?_eq_getElem h, ?_⟩
  exact of_decide_eq_true (List.findIdx_getElem (w := h))
theorem fsTo_length (T : List Int) (x : Int) : (fsTo T x).length = max T.length (fsAt T x + 1) := by
  unfold fsTo
  have := fsAt_le T x
  split
  · simp; omega
  · simp; omega
theorem fsT_length (f : Nat → Int) : ∀ k, (fsT f k).length ≤ k
  | 0 => by simp [fsT]
  | k + 1 => by
    have := fsT_length f k
    have h := fsTo_length (fsT f k) (f k)
    have h2 := fsAt_le (fsT f k) (f k)
    show (fsTo (fsT f k) (f k)).length ≤ k + 1
    omega
theorem fs_inv (f : Nat → Int) : ∀ k, (∀ p t, (fsT f k)[p]? = some t → (pl (fsS f) f k p).getLast? = some t) ∧ (∀ p, (fsT f k).length ≤ p → pl (fsS f) f k p = [])
  | 0 => ⟨fun p t h => by simp [fsT] at h, fun p _ => rfl⟩
  | k + 1 => by
    obtain ⟨h1, h2⟩ := fs_inv f k
    have hs : fsS f k = ((fsAt (fsT f k) (f k) : Nat) : Int) := rfl
    have hle := fsAt_le (fsT f k) (f k)
    refine ⟨fun p t h => ?_, fun p h => ?_⟩
    · have h' : (fsTo (fsT f k) (f k))[p]? = some t := h
      by_cases e : p = fsAt (fsT f k) (f k)
      · subst e
        rw [pl_on hs, List.getLast?_append]
        unfold fsTo at h'
        split at h'
        · rename_i e2
          rw [e2, List.getElem?_append_right (Nat.le_refl _)] at h'
          simpa using h'
        · rw [List.getElem?_set] at h'
          simp at h'
          simpa using h'.2
      · rw [pl_off (by rw [hs]; omega)]
        refine h1 p t ?_
        unfold fsTo at h'
        split at h'
        · rename_i e2
          rw [e2] at e
          by_cases hp : p < (fsT f k).length
          · rwa [List.getElem?_append_left hp] at h'
          · rw [List.getElem?_append_right (by omega), List.getElem?_eq_none (by simp; omega)] at h'
            cases h'
        · rwa [List.getElem?_set_ne (fun e' => e e'.symm)] at h'
    · have h' : (fsTo (fsT f k) (f k)).length ≤ p := h
      rw [fsTo_length] at h'
      rw [pl_off (by rw [hs]; omega)]
      exact h2 p (by omega)
theorem fs_not {f : Nat → Int} {k p : Nat} (h : p < fsA f k) : ¬ Takes (pl (fsS f) f k p) (f k) := fun ht => by
  obtain ⟨t, h1, h2⟩ := fsAt_lt h
  have := ht t ((fs_inv f k).1 p t h1)
  omega
theorem fs_takes {f : Nat → Int} {k : Nat} (hne : ∀ j, j < k → f j ≠ f k) : Takes (pl (fsS f) f k (fsA f k)) (f k) := fun y hy => by
  by_cases h : fsA f k < (fsT f k).length
  · obtain ⟨t, h1, h2⟩ := fsAt_at h
    have h3 := (fs_inv f k).1 _ t h1
    have h4 : (pl (fsS f) f k (fsA f k)).getLast? = some t := h3
    rw [hy] at h4
    injection h4 with h4
    obtain ⟨j, hj, _, e⟩ := pl_mem.1 (List.mem_of_getLast? hy)
    have := hne j hj
    omega
  · rw [(fs_inv f k).2 _ (by omega)] at hy
    cases hy
theorem fsA_le (f : Nat → Int) (k : Nat) : fsA f k ≤ k := Nat.le_trans (fsAt_le _ _) (fsT_length f k)
theorem fsT_congr {f g : Nat → Int} : ∀ k, (∀ j, j < k → f j = g j) → fsT f k = fsT g k
  | 0, _ => rfl
  | k + 1, h => by
    show fsTo (fsT f k) (f k) = fsTo (fsT g k) (g k)
    rw [fsT_congr k (fun j hj => h j (by omega)), h k (by omega)]

/-- a cell of a slice of one's own is written. -/
theorem OwnI.set {w : World} {base g n cap i : Nat} {L : List Int} (h : OwnI w base (.slice (some ⟨g, 0, none⟩) n cap) L) (hi : i < L.length) (x : Int) : OwnI (w.setCell ⟨g, i, none⟩ (.int .i64 x)) base (.slice (some ⟨g, 0, none⟩) n cap) (L.set i x) := by
  rcases h with ⟨hl, ⟨h0, _⟩ | ⟨g', cap', cur, hv, hb, hg, hnc, hcm, hcs, ht⟩⟩
  · cases h0
  · cases hv
    refine ⟨by simp, .inr ⟨g, cap, cur.setIfInBounds i (.int .i64 x), by simp, hb, ?_, by simpa using hnc, hcm, by simpa using hcs, ?_⟩⟩
    · exact heap_setCell_same w g i cur _ _ hg
    · simp only [List.length_set]
      rw [Array.toList_setIfInBounds, List.take_set, ht, List.map_set]
end Go.Proofs.Ytkggimalkjjnoaa
