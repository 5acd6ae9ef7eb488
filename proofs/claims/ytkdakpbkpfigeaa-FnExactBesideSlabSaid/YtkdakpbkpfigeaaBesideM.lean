/-
  Slabs beside one: what marks them. Conditions stand at each.
-/
import Derived.Test.YtkdakpbkpfigeaaRows
import Derived.Test.YtkdakpbkpfigeaaCrossM
namespace Go.Proofs.Ytkdakpbkpfigeaa
open Go Go.ChangeShapes Go.WideShapes Go.ChangeAt Go.RowKit
set_option linter.unusedVariables false
set_option linter.unusedSimpArgs false
set_option maxRecDepth 100000
set_option maxHeartbeats 2000000

noncomputable def bS (P : Prop) : Bool := @decide P (Classical.propDecidable P)
theorem bS_true {P : Prop} : bS P = true ↔ P := by unfold bS; exact @decide_eq_true_iff P (Classical.propDecidable P)
theorem bS_yes {P : Prop} (h : P) : bS P = true := bS_true.2 h
theorem bS_no {P : Prop} (h : ¬ P) : bS P = false := by
  cases e : bS P
  · rfl
  · exact absurd (bS_true.1 e) h
theorem bS_congr {P Q : Prop} (h : P ↔ Q) : bS P = bS Q := by rw [propext h]

/-- what the two pairs of a cell mark. -/
def nbE (G : Nat → Int) (v : Int) (x y : Nat) (o : Int) : Prop :=
  (0 < x ∧ G (y * 12 + x) = v ∧ o = G (y * 12 + (x - 1))) ∨ (0 < x ∧ G (y * 12 + (x - 1)) = v ∧ o = G (y * 12 + x)) ∨
  (0 < y ∧ G (y * 12 + x) = v ∧ o = G ((y - 1) * 12 + x)) ∨ (0 < y ∧ G ((y - 1) * 12 + x) = v ∧ o = G (y * 12 + x))
def mkS (G : Nat → Int) (W : Nat) (v : Int) (y x : Nat) (o : Int) : Prop := ∃ x' y', (y' < y ∧ x' < W ∨ y' = y ∧ x' < x) ∧ nbE G v x' y' o
theorem mkS_zero (G : Nat → Int) (W : Nat) (v o : Int) : ¬ mkS G W v 0 0 o := by
  rintro ⟨x', y', h, _⟩; omega
theorem mkS_row (G : Nat → Int) (W : Nat) (v : Int) (y : Nat) (o : Int) : mkS G W v y W o ↔ mkS G W v (y + 1) 0 o := by
  constructor
  · rintro ⟨x', y', h, he⟩; exact ⟨x', y', by omega, he⟩
  · rintro ⟨x', y', h, he⟩; exact ⟨x', y', by omega, he⟩
theorem mkS_step (G : Nat → Int) (W : Nat) (v : Int) (y x : Nat) (o : Int) : mkS G W v y (x + 1) o ↔ (mkS G W v y x o ∨ nbE G v x y o) := by
  constructor
  · rintro ⟨x', y', h, he⟩
    by_cases e : y' = y ∧ x' = x
    · obtain ⟨rfl, rfl⟩ := e; exact .inr he
    · exact .inl ⟨x', y', by omega, he⟩
  · rintro (⟨x', y', h, he⟩ | he)
    · exact ⟨x', y', by omega, he⟩
    · exact ⟨x, y, by omega, he⟩

/-- the indices that are told. -/
def pickL (b : Nat → Bool) : Nat → List Int
  | 0 => []
  | i + 1 => pickL b i ++ (if b i then [(i : Int)] else [])
theorem pickL_yes {b : Nat → Bool} {i : Nat} (h : b i = true) : pickL b (i + 1) = pickL b i ++ [(i : Int)] := by
  show pickL b i ++ (if b i then [(i : Int)] else []) = _
  rw [if_pos h]
theorem pickL_no {b : Nat → Bool} {i : Nat} (h : b i = false) : pickL b (i + 1) = pickL b i := by
  show pickL b i ++ (if b i then [(i : Int)] else []) = _
  rw [if_neg (by rw [h]; simp), List.append_nil]
theorem pickL_length (b : Nat → Bool) : ∀ n, (pickL b n).length ≤ n
  | 0 => Nat.le_refl _
  | i + 1 => by
    have := pickL_length b i
    cases h : b i
    · rw [pickL_no h]; omega
    · rw [pickL_yes h, List.length_append]; simp; omega
theorem pickL_congr {b b' : Nat → Bool} : ∀ n, (∀ i, i < n → b i = b' i) → pickL b n = pickL b' n
  | 0, _ => rfl
  | i + 1, h => by
    show pickL b i ++ (if b i then [(i : Int)] else []) = pickL b' i ++ (if b' i then [(i : Int)] else [])
    rw [pickL_congr i (fun j hj => h j (by omega)), h i (by omega)]
theorem pickL_more {b : Nat → Bool} {n : Nat} : ∀ m, (∀ i, n ≤ i → i < n + m → b i = false) → pickL b (n + m) = pickL b n
  | 0, _ => rfl
  | m + 1, h => by
    rw [← Nat.add_assoc, pickL_no (h (n + m) (by omega) (by omega)), pickL_more m (fun i h1 h2 => h i h1 (by omega))]

/-- the four cells beside one. -/
def dxy (x y : Int) (t : Nat) : Int × Int := if t = 0 then (x, y - 1) else if t = 1 then (x + 1, y) else if t = 2 then (x, y + 1) else (x - 1, y)
/-- what a cell marks: each other slab at a cell beside it. -/
def nbI (G : Nat → Int) (x y : Nat) (o : Int) : Prop := ∃ t, t < 4 ∧ jb (gA G x y) (gA G (dxy x y t).1 (dxy x y t).2) = true ∧ o = gA G (dxy x y t).1 (dxy x y t).2

theorem jb_tt {a b : Int} : jb a b = true ↔ a ≠ 0 ∧ b ≠ 0 ∧ a ≠ b := by unfold jb; simp [and_assoc]
/-- both ways of marking tell the same. -/
theorem beside_same {G : Nat → Int} {W H : Nat} {v o : Int} (hW : W ≤ 12) (hH : H ≤ 12) (hout : ∀ x y, x < 12 → y < 12 → ¬ (x < W ∧ y < H) → G (y * 12 + x) = 0) (hv : v ≠ 0) (ho : o ≠ 0) :
    (mkS G W v H 0 o ∧ o ≠ v) ↔ ∃ x y, x < 12 ∧ y < 12 ∧ G (y * 12 + x) = v ∧ nbI G x y o := by
  have hin : ∀ x y, x < 12 → y < 12 → G (y * 12 + x) ≠ 0 → x < W ∧ y < H := fun x y hx hy hn => Classical.byContradiction fun h => hn (hout x y hx hy h)
  constructor
  · rintro ⟨⟨x, y, hxy, he⟩, hne⟩
    have hx : x < W := by omega
    have hy : y < H := by omega
    rcases he with ⟨h0, h1, h2⟩ | ⟨h0, h1, h2⟩ | ⟨h0, h1, h2⟩ | ⟨h0, h1, h2⟩
    · refine ⟨x, y, by omega, by omega, h1, 3, by omega, ?_⟩
      have e1 : gA G x y = v := by rw [gA_in G x y (by omega) (by omega), h1]
      have e2 : gA G (dxy x y 3).1 (dxy x y 3).2 = o := by
        show gA G ((x : Int) - 1) y = o
        rw [show (x : Int) - 1 = ((x - 1 : Nat) : Int) by omega, gA_in G (x - 1) y (by omega) (by omega), h2]
      rw [e1, e2]; exact ⟨jb_tt.2 ⟨hv, ho, fun e => hne e.symm⟩, rfl⟩
    · refine ⟨x - 1, y, by omega, by omega, h1, 1, by omega, ?_⟩
      have e1 : gA G ((x - 1 : Nat) : Int) y = v := by rw [gA_in G (x - 1) y (by omega) (by omega), h1]
      have e2 : gA G (dxy ((x - 1 : Nat) : Int) y 1).1 (dxy ((x - 1 : Nat) : Int) y 1).2 = o := by
        show gA G (((x - 1 : Nat) : Int) + 1) y = o
        rw [show ((x - 1 : Nat) : Int) + 1 = (x : Int) by omega, gA_in G x y (by omega) (by omega), h2]
      rw [e1, e2]; exact ⟨jb_tt.2 ⟨hv, ho, fun e => hne e.symm⟩, rfl⟩
    · refine ⟨x, y, by omega, by omega, h1, 0, by omega, ?_⟩
      have e1 : gA G x y = v := by rw [gA_in G x y (by omega) (by omega), h1]
      have e2 : gA G (dxy x y 0).1 (dxy x y 0).2 = o := by
        show gA G x ((y : Int) - 1) = o
        rw [show (y : Int) - 1 = ((y - 1 : Nat) : Int) by omega, gA_in G x (y - 1) (by omega) (by omega), h2]
      rw [e1, e2]; exact ⟨jb_tt.2 ⟨hv, ho, fun e => hne e.symm⟩, rfl⟩
    · refine ⟨x, y - 1, by omega, by omega, h1, 2, by omega, ?_⟩
      have e1 : gA G x ((y - 1 : Nat) : Int) = v := by rw [gA_in G x (y - 1) (by omega) (by omega), h1]
      have e2 : gA G (dxy x ((y - 1 : Nat) : Int) 2).1 (dxy x ((y - 1 : Nat) : Int) 2).2 = o := by
        show gA G x (((y - 1 : Nat) : Int) + 1) = o
        rw [show ((y - 1 : Nat) : Int) + 1 = (y : Int) by omega, gA_in G x y (by omega) (by omega), h2]
      rw [e1, e2]; exact ⟨jb_tt.2 ⟨hv, ho, fun e => hne e.symm⟩, rfl⟩
  · rintro ⟨x, y, hx, hy, h1, t, ht, hj, rfl⟩
    have hxy := hin x y hx hy (by rw [h1]; exact hv)
    rw [gA_in G x y hx hy, h1] at hj
    obtain ⟨_, hj2, hj3⟩ := jb_tt.1 hj
    refine ⟨?_, fun e => hj3 e.symm⟩
    have hb : 0 ≤ (dxy x y t).1 ∧ (dxy x y t).1 < 12 ∧ 0 ≤ (dxy x y t).2 ∧ (dxy x y t).2 < 12 := Classical.byContradiction fun h => hj2 (gA_out h)
    have ht4 : t = 0 ∨ t = 1 ∨ t = 2 ∨ t = 3 := by omega
    rcases ht4 with rfl | rfl | rfl | rfl
    · have hb' : 0 ≤ (y : Int) - 1 := hb.2.2.1
      have e2 : gA G (dxy x y 0).1 (dxy x y 0).2 = G ((y - 1) * 12 + x) := by
        show gA G x ((y : Int) - 1) = _
        rw [show (y : Int) - 1 = ((y - 1 : Nat) : Int) by omega, gA_in G x (y - 1) (by omega) (by omega)]
      rw [e2]
      exact ⟨x, y, by omega, .inr (.inr (.inl ⟨by omega, h1, rfl⟩))⟩
    · have hb' : (x : Int) + 1 < 12 := hb.2.1
      have e2 : gA G (dxy x y 1).1 (dxy x y 1).2 = G (y * 12 + (x + 1)) := by
        show gA G ((x : Int) + 1) y = _
        rw [show (x : Int) + 1 = ((x + 1 : Nat) : Int) by omega, gA_in G (x + 1) y (by omega) (by omega)]
      rw [e2] at hj2 ⊢
      have := hin (x + 1) y (by omega) hy hj2
      exact ⟨x + 1, y, by omega, .inr (.inl ⟨by omega, by rw [Nat.add_sub_cancel]; exact h1, rfl⟩)⟩
    · have hb' : (y : Int) + 1 < 12 := hb.2.2.2
      have e2 : gA G (dxy x y 2).1 (dxy x y 2).2 = G ((y + 1) * 12 + x) := by
        show gA G x ((y : Int) + 1) = _
        rw [show (y : Int) + 1 = ((y + 1 : Nat) : Int) by omega, gA_in G x (y + 1) (by omega) (by omega)]
      rw [e2] at hj2 ⊢
      have := hin x (y + 1) hx (by omega) hj2
      exact ⟨x, y + 1, by omega, .inr (.inr (.inr ⟨by omega, by rw [Nat.add_sub_cancel]; exact h1, rfl⟩))⟩
    · have hb' : 0 ≤ (x : Int) - 1 := hb.1
      have e2 : gA G (dxy x y 3).1 (dxy x y 3).2 = G (y * 12 + (x - 1)) := by
        show gA G ((x : Int) - 1) y = _
        rw [show (x : Int) - 1 = ((x - 1 : Nat) : Int) by omega, gA_in G (x - 1) y (by omega) (by omega)]
      rw [e2]
      exact ⟨x, y, by omega, .inl ⟨by omega, h1, rfl⟩⟩
end Go.Proofs.Ytkdakpbkpfigeaa
