/-
  The cells of a slab as the program walks them, and as the plain mathematics has them.
-/
import Derived.Test.YtmkcdelfgaogaaaDoorRows
import Derived.Test.YtmkcdelfgaogaaaDoorLayI
namespace Go.Proofs.YtmkcdelfgaogaaaDoor
open Go Go.RowKit
set_option linter.unusedVariables false
set_option maxRecDepth 100000
set_option maxHeartbeats 2000000

theorem cov_iff {c : Nat → Int} {i x0 y0 wd ht p : Nat} (hp : p < 144) (e0 : c (4 * i) = x0) (e1 : c (4 * i + 1) = y0) (e2 : c (4 * i + 2) = wd) (e3 : c (4 * i + 3) = ht) (hx : x0 + wd ≤ 12) (hy : y0 + ht ≤ 12) :
    cov c i p ↔ ∃ q ∈ uptoC x0 y0 wd (wd * ht), posC q = p := by
  unfold cov
  rw [e0, e1, e2, e3]
  constructor
  · rintro ⟨h1, h2, h3, h4⟩
    have hX : p % 12 < 12 := Nat.mod_lt _ (by omega)
    have hY : p / 12 < 12 := by omega
    have hk : wd * (p / 12 - y0) + (p % 12 - x0) < wd * ht := by
      have : wd * (p / 12 - y0 + 1) ≤ wd * ht := Nat.mul_le_mul_left _ (by omega)
      rw [Nat.mul_add] at this
      omega
    refine ⟨_, mem_uptoC hk, ?_⟩
    rw [cellAt_eq (ht := ht) hX hY (by omega) (by omega) (by omega)]
    show p / 12 * 12 + p % 12 = p
    omega
  · rintro ⟨q, hq, rfl⟩
    obtain ⟨k, hk, rfl⟩ := List.mem_map.1 hq
    replace hk := List.mem_range.1 hk
    have hw : 0 < wd := by
      rcases Nat.eq_zero_or_pos wd with h | h
      · subst h; simp at hk
      · exact h
    have k1 : k % wd < wd := Nat.mod_lt _ hw
    have k2 : k / wd < ht := Nat.div_lt_of_lt_mul hk
    have e : posC (cellAt x0 y0 wd k) = (y0 + k / wd) * 12 + (x0 + k % wd) := by
      show min (y0 + k / wd) 11 * 12 + min (x0 + k % wd) 11 = _
      rw [Nat.min_eq_left (by omega), Nat.min_eq_left (by omega)]
    rw [e]
    obtain ⟨d1, d2⟩ := cell_div (y := y0 + k / wd) (x := x0 + k % wd) (by omega)
    rw [d1, d2]
    generalize k % wd = u at *
    generalize k / wd = v at *
    refine ⟨?_, ?_, ?_, ?_⟩ <;> omega
theorem gridQ_next {c : Nat → Int} {i x0 y0 wd ht p : Nat} (hp : p < 144) (e0 : c (4 * i) = x0) (e1 : c (4 * i + 1) = y0) (e2 : c (4 * i + 2) = wd) (e3 : c (4 * i + 3) = ht) (hx : x0 + wd ≤ 12) (hy : y0 + ht ≤ 12) :
    gridQ (gridN c i) ((i : Int) + 1) (uptoC x0 y0 wd (wd * ht)) p = gridN c (i + 1) p := by
  unfold gridQ
  show _ = if cov c i p then (i : Int) + 1 else gridN c i p
  simp only [cov_iff hp e0 e1 e2 e3 hx hy]
theorem opn_yes {c : Nat → Int} {i x0 y0 wd ht : Nat} (e0 : c (4 * i) = x0) (e1 : c (4 * i + 1) = y0) (e2 : c (4 * i + 2) = wd) (e3 : c (4 * i + 3) = ht) (hx : x0 + wd ≤ 12) (hy : y0 + ht ≤ 12)
    (h : ∀ k, k < wd * ht → gridN c i (posC (cellAt x0 y0 wd k)) = 0) : opn c i := fun p hp hc => by
  obtain ⟨q, hq, rfl⟩ := (cov_iff hp e0 e1 e2 e3 hx hy).1 hc
  obtain ⟨k, hk, rfl⟩ := List.mem_map.1 hq
  exact h k (List.mem_range.1 hk)
theorem posC_lt (q : CX) : posC q < 144 := by
  have h1 := q.2.1
  have h2 := q.2.2
  show q.1.2 * 12 + q.1.1 < 144
  omega
theorem opn_no {c : Nat → Int} {i x0 y0 wd ht : Nat} (e0 : c (4 * i) = x0) (e1 : c (4 * i + 1) = y0) (e2 : c (4 * i + 2) = wd) (e3 : c (4 * i + 3) = ht) (hx : x0 + wd ≤ 12) (hy : y0 + ht ≤ 12)
    (h : ∃ k, k < wd * ht ∧ gridN c i (posC (cellAt x0 y0 wd k)) ≠ 0) : ¬ opn c i := fun ho => by
  obtain ⟨k, hk, hne⟩ := h
  exact hne (ho _ (posC_lt _) ((cov_iff (posC_lt _) e0 e1 e2 e3 hx hy).2 ⟨_, mem_uptoC hk, rfl⟩))
/-- the four numbers of a slab that lies within 12 times 12 cells. -/
theorem lies_nat {X Y : Int} {c : Nat → Int} {i : Nat} (hX : X ≤ 12) (hY : Y ≤ 12) (h : lies X Y c i) :
    ∃ x0 y0 wd ht : Nat, c (4 * i) = x0 ∧ c (4 * i + 1) = y0 ∧ c (4 * i + 2) = wd ∧ c (4 * i + 3) = ht ∧ x0 + wd ≤ 12 ∧ y0 + ht ≤ 12 := by
  obtain ⟨h0, h1, h2, h3, h4, h5⟩ := h
  exact ⟨(c (4 * i)).toNat, (c (4 * i + 1)).toNat, (c (4 * i + 2)).toNat, (c (4 * i + 3)).toNat, by omega, by omega, by omega, by omega, by omega, by omega⟩
end Go.Proofs.YtmkcdelfgaogaaaDoor
