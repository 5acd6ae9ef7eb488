/-
  The numbers of CommonJoints: rising lists with the same members are equal, and the joints of a row rise. No condition.
-/
import Derived.Test.YtjeccdmhpbaabaaRows
import Derived.Test.YtjeccdmhpbaabaaSeqK
namespace Go.Proofs.Ytjeccdmhpbaabaa
open Go Go.RowKit
set_option linter.unusedVariables false
set_option linter.unusedSimpArgs false
set_option maxRecDepth 100000
set_option maxHeartbeats 2000000

theorem rising_ext : ∀ (X Y : List Int), X.Pairwise (· < ·) → Y.Pairwise (· < ·) → (∀ x, x ∈ X ↔ x ∈ Y) → X = Y
  | [], [], _, _, _ => rfl
  | [], y :: Y, _, _, h => by have := (h y).2 (by simp); simp at this
  | x :: X, [], _, _, h => by have := (h x).1 (by simp); simp at this
  | x :: X, y :: Y, hX, hY, h => by
    rw [List.pairwise_cons] at hX hY
    have e : x = y := by
      have h1 := (h x).1 (by simp)
      have h2 := (h y).2 (by simp)
      rw [List.mem_cons] at h1 h2
      rcases h1 with h1 | h1
      · exact h1
      · rcases h2 with h2 | h2
        · exact h2.symm
        · have := hY.1 x h1
          have := hX.1 y h2
          omega
    subst e
    have ht := rising_ext X Y hX.2 hY.2 fun z => by
      constructor
      · intro hz
        have := (h z).1 (by simp [hz])
        rw [List.mem_cons] at this
        rcases this with rfl | this
        · have := hX.1 z hz
          omega
        · exact this
      · intro hz
        have := (h z).2 (by simp [hz])
        rw [List.mem_cons] at this
        rcases this with rfl | this
        · have := hY.1 z hz
          omega
        · exact this
    rw [ht]

/-- what is in both of two lists, in the order of the first. -/
def comL (X Y : List Int) : List Int := X.filter (fun x => decide (x ∈ Y))
theorem comL_comm (X Y : List Int) (hX : X.Pairwise (· < ·)) (hY : Y.Pairwise (· < ·)) : comL X Y = comL Y X := by
  refine rising_ext _ _ (hX.filter _) (hY.filter _) fun x => ?_
  simp [comL, List.mem_filter]
  exact And.comm
theorem comL_le (X Y : List Int) : (comL X Y).length ≤ X.length := List.length_filter_le _ _
theorem comL_snoc (L Y : List Int) (x : Int) : comL (L ++ [x]) Y = comL L Y ++ (if x ∈ Y then [x] else []) := by
  unfold comL
  rw [List.filter_append]
  congr 1
  by_cases h : x ∈ Y <;> simp [h]

theorem jp_room (joint : Int) (c : Nat → Int) (n : Nat) (hn : n ≤ 60) (hj : 0 ≤ joint ∧ joint ≤ 5) (hc : ∀ j, j < n → 1 ≤ c j ∧ c j ≤ 20) : ∀ m, m ≤ n → 0 ≤ jp joint c m ∧ jp joint c m ≤ 25 * m
  | 0, _ => ⟨Int.le_refl _, Int.le_refl _⟩
  | m + 1, hm => by
    have ih := jp_room joint c n hn hj hc m (by omega)
    have h := hc m (by omega)
    have e1 : wrap64 (jp joint c m + c m) = jp joint c m + c m := IntWalk.wrap64_in _ (by omega)
    have e2 : wrap64 (jp joint c m + c m + joint) = jp joint c m + c m + joint := IntWalk.wrap64_in _ (by omega)
    rw [jp, e1, e2]
    omega
theorem jt_eq (joint : Int) (c : Nat → Int) (n : Nat) (hn : n ≤ 60) (hj : 0 ≤ joint ∧ joint ≤ 5) (hc : ∀ j, j < n → 1 ≤ c j ∧ c j ≤ 20) (m : Nat) (hm : m < n) : jt joint c m = jp joint c m + c m := by
  have ih := jp_room joint c n hn hj hc m (by omega)
  have h := hc m hm
  exact IntWalk.wrap64_in _ (by omega)
theorem jp_succ' (joint : Int) (c : Nat → Int) (n : Nat) (hn : n ≤ 60) (hj : 0 ≤ joint ∧ joint ≤ 5) (hc : ∀ j, j < n → 1 ≤ c j ∧ c j ≤ 20) (m : Nat) (hm : m < n) : jp joint c (m + 1) = jp joint c m + c m + joint := by
  have ih := jp_room joint c n hn hj hc m (by omega)
  have h := hc m hm
  have e1 : wrap64 (jp joint c m + c m) = jp joint c m + c m := IntWalk.wrap64_in _ (by omega)
  rw [jp, e1]
  exact IntWalk.wrap64_in _ (by omega)
theorem jt_lt (joint : Int) (c : Nat → Int) (n : Nat) (hn : n ≤ 60) (hj : 0 ≤ joint ∧ joint ≤ 5) (hc : ∀ j, j < n → 1 ≤ c j ∧ c j ≤ 20) (a : Nat) : ∀ d, a + d + 1 < n → jt joint c a < jt joint c (a + d + 1)
  | 0, h => by
    rw [jt_eq joint c n hn hj hc a (by omega), jt_eq joint c n hn hj hc (a + 0 + 1) h]
    have := jp_succ' joint c n hn hj hc a (by omega)
    have := hc (a + 0 + 1) h
    simp only [Nat.add_zero] at *
    omega
  | d + 1, h => by
    have ih := jt_lt joint c n hn hj hc a d (by omega)
    refine Int.lt_trans ih ?_
    rw [jt_eq joint c n hn hj hc _ (show a + d + 1 < n by omega), jt_eq joint c n hn hj hc (a + (d + 1) + 1) h]
    have := jp_succ' joint c n hn hj hc (a + d + 1) (by omega)
    have := hc (a + (d + 1) + 1) h
    rw [show a + (d + 1) + 1 = a + d + 1 + 1 by omega] at *
    omega
theorem jtL_rises (joint : Int) (c : Nat → Int) (n : Nat) (hn : n ≤ 60) (hj : 0 ≤ joint ∧ joint ≤ 5) (hc : ∀ j, j < n → 1 ≤ c j ∧ c j ≤ 20) (m : Nat) (hm : m ≤ n) : (jtL joint c m).Pairwise (· < ·) := by
  unfold jtL
  rw [List.pairwise_map]
  refine List.Pairwise.imp_of_mem ?_ List.pairwise_lt_range
  intro a b ha hb hab
  rw [List.mem_range] at ha hb
  have := jt_lt joint c n hn hj hc a (b - a - 1) (by omega)
  rw [show a + (b - a - 1) + 1 = b by omega] at this
  exact this
end Go.Proofs.Ytjeccdmhpbaabaa
