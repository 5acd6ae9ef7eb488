/-
  Plain mathematics of the area that is laid: the areas of all slabs and the open cells are all cells. Conditions stand at each.
-/
import Derived.Test.YtmbmdplafjminaaCells
namespace Go.Proofs.Ytmbmdplafjminaa
open Go Go.RowKit
set_option linter.unusedVariables false
set_option linter.unusedSimpArgs false

theorem split_len {α : Type} (p q : α → Bool) : ∀ l : List α, (l.filter p).length = (l.filter (fun a => p a && q a)).length + (l.filter (fun a => p a && !q a)).length
  | [] => rfl
  | a :: l => by
    have ih := split_len p q l
    simp only [List.filter_cons]
    cases hp : p a <;> cases hq : q a <;> simp [hp, hq] <;> omega

theorem cnt_row (x0 wd : Nat) : ∀ m, ((List.range m).filter (fun x => decide (x0 ≤ x ∧ x < x0 + wd))).length = min m (x0 + wd) - min m x0
  | 0 => by simp
  | m + 1 => by
    have ih := cnt_row x0 wd m
    rw [List.range_succ, List.filter_append, List.length_append, ih]
    by_cases h : x0 ≤ m ∧ m < x0 + wd
    · simp [List.filter_cons, h]; omega
    · have h' : decide (x0 ≤ m ∧ m < x0 + wd) = false := by simpa using h
      simp only [List.filter_cons, h', List.filter_nil, Bool.false_eq_true, if_false, List.length_nil]; omega

theorem allC_row (W y : Nat) : allC W (W * (y + 1)) = allC W (W * y) ++ (List.range W).map (fun x => (x, y)) := by
  unfold allC
  rw [Nat.mul_succ, List.range_add, List.map_append, List.map_map]
  congr 1
  apply List.map_congr_left
  intro x hx
  exact cl_eq (List.mem_range.1 hx)

def inR (x0 y0 wd ht : Nat) (q : Nat × Nat) : Bool := decide (x0 ≤ q.1 ∧ q.1 < x0 + wd) && decide (y0 ≤ q.2 ∧ q.2 < y0 + ht)

theorem cnt_rows (W x0 y0 wd ht : Nat) (hx : x0 + wd ≤ W) : ∀ y, ((allC W (W * y)).filter (inR x0 y0 wd ht)).length = wd * (min y (y0 + ht) - min y y0)
  | 0 => by simp [allC]
  | y + 1 => by
    have ih := cnt_rows W x0 y0 wd ht hx y
    rw [allC_row, List.filter_append, List.length_append, ih, List.filter_map, List.length_map]
    have hc := cnt_row x0 wd W
    by_cases h : y0 ≤ y ∧ y < y0 + ht
    · have e : (List.range W).filter (inR x0 y0 wd ht ∘ fun x => (x, y)) = (List.range W).filter (fun x => decide (x0 ≤ x ∧ x < x0 + wd)) := by
        apply List.filter_congr
        intro x _
        simp [inR, h]
      rw [e, hc, show min (y + 1) (y0 + ht) - min (y + 1) y0 = (min y (y0 + ht) - min y y0) + 1 by omega, Nat.mul_succ]
      omega
    · have e : (List.range W).filter (inR x0 y0 wd ht ∘ fun x => (x, y)) = [] := by
        rw [List.filter_eq_nil_iff]
        intro x _ hx'
        simp [inR] at hx'
        omega
      rw [e, show min (y + 1) (y0 + ht) - min (y + 1) y0 = (min y (y0 + ht) - min y y0) by omega]
      simp

theorem allC_mem {W H : Nat} (hW : W ≤ 12) (hH : H ≤ 12) {q : Nat × Nat} (h : q ∈ allC W (W * H)) : q.1 < W ∧ q.2 < H := by
  obtain ⟨k, hk, rfl⟩ := List.mem_map.1 h
  exact cl_lt hW hH (List.mem_range.1 hk)

def areaN (c : Nat → Int) : Nat → Int
  | 0 => 0
  | k + 1 => areaN c k + c (4 * k + 2) * c (4 * k + 3)

theorem cov_inR {c : Nat → Int} {i x0 y0 wd ht : Nat} (e0 : c (4 * i) = x0) (e1 : c (4 * i + 1) = y0) (e2 : c (4 * i + 2) = wd) (e3 : c (4 * i + 3) = ht) {x y : Nat} (hx : x < 12) :
    cov c i (y * 12 + x) ↔ inR x0 y0 wd ht (x, y) = true := by
  unfold cov inR
  rw [e0, e1, e2, e3, (cell_div hx).1, (cell_div hx).2]
  simp only [Bool.and_eq_true, decide_eq_true_eq]
  omega

theorem area_to {W H n : Nat} {c : Nat → Int} (hv : Valid W H n c) : ∀ k, k ≤ n → areaN c k + ((openC W (gridN c k) (W * H)).length : Int) = (W : Int) * H
  | 0, _ => by
    have e : openC W (gridN c 0) (W * H) = allC W (W * H) := by
      unfold openC
      rw [List.filter_eq_self]
      intro q _
      simp [gridN]
    rw [e, allC_length]
    simp [areaN]
  | k + 1, hk => by
    have ih := area_to hv k (by omega)
    have hW : W ≤ 12 := by have := hv.2.1; omega
    have hH : H ≤ 12 := by have := hv.2.2.2.1; omega
    obtain ⟨hl, _, ho⟩ := hv.2.2.2.2.2 k (by omega)
    obtain ⟨x0, y0, wd, ht, e0, e1, e2, e3, hx, hy⟩ := lies_nat (by omega) (by omega) hl
    have hx' : x0 + wd ≤ W := by have := hl.2.2.2.2.1; rw [e0, e2] at this; omega
    have hy' : y0 + ht ≤ H := by have := hl.2.2.2.2.2; rw [e1, e3] at this; omega
    have hs := split_len (fun q => gridN c k (q.2 * 12 + q.1) == 0) (inR x0 y0 wd ht) (allC W (W * H))
    have ea : (allC W (W * H)).filter (fun q => (gridN c k (q.2 * 12 + q.1) == 0) && inR x0 y0 wd ht q) = (allC W (W * H)).filter (inR x0 y0 wd ht) := by
      apply List.filter_congr
      intro q hq
      obtain ⟨q1, q2⟩ := allC_mem hW hH hq
      by_cases hi : inR x0 y0 wd ht q = true
      · have := ho (q.2 * 12 + q.1) (by omega) ((cov_inR e0 e1 e2 e3 (by omega)).2 hi)
        simp [this]
      · simp [hi]
    have eb : (allC W (W * H)).filter (fun q => (gridN c k (q.2 * 12 + q.1) == 0) && !inR x0 y0 wd ht q) = openC W (gridN c (k + 1)) (W * H) := by
      unfold openC
      apply List.filter_congr
      intro q hq
      obtain ⟨q1, q2⟩ := allC_mem hW hH hq
      have hci := cov_inR (c := c) (i := k) e0 e1 e2 e3 (x := q.1) (y := q.2) (by omega)
      show _ = ((if cov c k (q.2 * 12 + q.1) then (k : Int) + 1 else gridN c k (q.2 * 12 + q.1)) == 0)
      by_cases hi : inR x0 y0 wd ht q = true
      · rw [if_pos (hci.2 hi)]
        have : ((k : Int) + 1 == 0) = false := by simp; omega
        simp [hi, this]
      · rw [if_neg (fun h => hi (hci.1 h))]
        simp [hi]
    have hcnt := cnt_rows W x0 y0 wd ht hx' H
    rw [show min H (y0 + ht) - min H y0 = ht by omega] at hcnt
    rw [ea, eb, hcnt] at hs
    have hs' : (openC W (gridN c k) (W * H)).length = wd * ht + (openC W (gridN c (k + 1)) (W * H)).length := hs
    show areaN c k + c (4 * k + 2) * c (4 * k + 3) + _ = _
    rw [e2, e3]
    rw [hs'] at ih
    push_cast at ih
    omega
theorem area_bd {W H n : Nat} {c : Nat → Int} (hv : Valid W H n c) (k : Nat) (hk : k ≤ n) : areaN c k ≤ 144 := by
  have h := area_to hv k hk
  have hW : W ≤ 12 := by have := hv.2.1; omega
  have hH : H ≤ 12 := by have := hv.2.2.2.1; omega
  have h2 : W * H ≤ 144 := mul12 hW hH
  have h3 : (W : Int) * H = ((W * H : Nat) : Int) := by push_cast; rfl
  omega
end Go.Proofs.Ytmbmdplafjminaa
