/-
  Grounds as numbers and as values: 84 cells, two sizes, 81 heights, and a slice; which grounds are valid. Conditions stand at each.
-/
import Derived.Test.YtmkcdelfgaogaaaDoorRows
import Derived.Test.YtmkcdelfgaogaaaDoorIv
namespace Go.Proofs.YtmkcdelfgaogaaaDoor
open Go Go.ChangeShapes Go.WideShapes Go.ChangeAt Go.RowKit
set_option linter.unusedVariables false
set_option linter.unusedSimpArgs false

/-- the 81 heights as values. -/
noncomputable abbrev hV (h : Nat → Int) : Array Value := iV .i16 81 h
theorem hV_size (h : Nat → Int) : (hV h).size = 81 := iV_size _ _ _
theorem hV_get (h : Nat → Int) {p : Nat} (hp : p < 81) : (hV h)[p]? = some (.int .i16 (h p)) := iV_get hp
/-- a row of heights. -/
noncomputable abbrev r9 (h : Nat → Int) (y : Nat) : Array Value := iV .i16 9 (fun j => h (9 * y + j))
theorem hV_row (h : Nat → Int) {y : Nat} (hy : y < 9) : ∀ j, j < (r9 h y).size → (hV h)[y * 9 + j]? = (r9 h y)[j]? := fun j hj => by
  rw [iV_size] at hj
  rw [hV_get h (by omega), iV_get hj, show y * 9 + j = 9 * y + j by omega]
/-- a ground's 84 cells (s: the slice of gullies) exist. -/
theorem gV_ex (X Y : Int) (h : Nat → Int) (s : Value) : ∃ cs : Array Value, cs.size = 84 ∧ cs[0]? = some (.int .i8 X) ∧ cs[1]? = some (.int .i8 Y) ∧ (∀ p, p < 81 → cs[2 + p]? = some (.int .i16 (h p))) ∧ cs[83]? = some s := by
  refine ⟨#[.int .i8 X, .int .i8 Y] ++ (hV h ++ #[s]), by simp [iV_size], by rw [Array.getElem?_append_left (by simp)]; rfl, by rw [Array.getElem?_append_left (by simp)]; rfl, fun p hp => ?_, ?_⟩
  · rw [Array.getElem?_append_right (by simp), Array.getElem?_append_left (by simp [iV_size]; omega)]
    simp only [List.size_toArray, List.length_cons, List.length_nil]
    rw [show 2 + p - (0 + 1 + 1) = p by omega]
    exact hV_get h hp
  · rw [Array.getElem?_append_right (by simp), Array.getElem?_append_right (by simp [iV_size])]
    simp [iV_size]
/-- a ground's 84 cells (chosen, so that nothing looks into them). -/
noncomputable def gV (X Y : Int) (h : Nat → Int) (s : Value) : Array Value := Classical.choose (gV_ex X Y h s)
section
variable (X Y : Int) (h : Nat → Int) (s : Value)
theorem gV_size : (gV X Y h s).size = 84 := (Classical.choose_spec (gV_ex X Y h s)).1
theorem gV_0 : (gV X Y h s)[0]? = some (.int .i8 X) := (Classical.choose_spec (gV_ex X Y h s)).2.1
theorem gV_1 : (gV X Y h s)[1]? = some (.int .i8 Y) := (Classical.choose_spec (gV_ex X Y h s)).2.2.1
theorem gV_h {p : Nat} (hp : p < 81) : (gV X Y h s)[2 + p]? = some (.int .i16 (h p)) := (Classical.choose_spec (gV_ex X Y h s)).2.2.2.1 p hp
theorem gV_s : (gV X Y h s)[83]? = some s := (Classical.choose_spec (gV_ex X Y h s)).2.2.2.2
/-- an array that holds these cells is it. -/
theorem gV_of {cs : Array Value} (hs : cs.size = 84) (h0 : cs[0]? = some (.int .i8 X)) (h1 : cs[1]? = some (.int .i8 Y)) (hh : ∀ p, p < 81 → cs[2 + p]? = some (.int .i16 (h p))) (h3 : cs[83]? = some s) : cs = gV X Y h s := by
  apply Array.ext_getElem?
  intro i
  by_cases hi : i < 84
  · by_cases i0 : i = 0
    · subst i0; rw [h0, gV_0]
    by_cases i1 : i = 1
    · subst i1; rw [h1, gV_1]
    by_cases i3 : i = 83
    · subst i3; rw [h3, gV_s]
    obtain ⟨p, rfl⟩ : ∃ p, i = 2 + p := ⟨i - 2, by omega⟩
    rw [hh p (by omega), gV_h X Y h s (by omega)]
  · rw [Array.getElem?_eq_none (by omega), Array.getElem?_eq_none (by rw [gV_size]; omega)]
theorem gV_congr {X Y : Int} {h h' : Nat → Int} {s : Value} (e : ∀ p, p < 81 → h p = h' p) : gV X Y h s = gV X Y h' s :=
  gV_of X Y h' s (gV_size _ _ _ _) (gV_0 _ _ _ _) (gV_1 _ _ _ _) (fun p hp => by rw [gV_h _ _ _ _ hp, e p hp]) (gV_s _ _ _ _)
end
theorem gV_set0 (X Y X' : Int) (h : Nat → Int) (s : Value) : (gV X Y h s).setIfInBounds 0 (.int .i8 X') = gV X' Y h s := by
  refine gV_of _ _ _ _ (by simp [gV_size]) ?_ ?_ (fun p hp => ?_) ?_ <;> rw [Array.getElem?_setIfInBounds]
  · simp [gV_size]
  · simp [gV_1]
  · rw [if_neg (by omega), gV_h _ _ _ _ hp]
  · simp [gV_s]
theorem gV_set1 (X Y Y' : Int) (h : Nat → Int) (s : Value) : (gV X Y h s).setIfInBounds 1 (.int .i8 Y') = gV X Y' h s := by
  refine gV_of _ _ _ _ (by simp [gV_size]) ?_ ?_ (fun p hp => ?_) ?_ <;> rw [Array.getElem?_setIfInBounds]
  · simp [gV_0]
  · simp [gV_size]
  · rw [if_neg (by omega), gV_h _ _ _ _ hp]
  · simp [gV_s]
theorem gV_set83 (X Y : Int) (h : Nat → Int) (s s' : Value) : (gV X Y h s).setIfInBounds 83 s' = gV X Y h s' := by
  refine gV_of _ _ _ _ (by simp [gV_size]) ?_ ?_ (fun p hp => ?_) ?_ <;> rw [Array.getElem?_setIfInBounds]
  · simp [gV_0]
  · simp [gV_1]
  · rw [if_neg (by omega), gV_h _ _ _ _ hp]
  · simp [gV_size]
theorem gV_seth (X Y : Int) (h : Nat → Int) (s : Value) {p : Nat} (hp : p < 81) (v : Int) : (gV X Y h s).setIfInBounds (2 + p) (.int .i16 v) = gV X Y (fun j => if j = p then v else h j) s := by
  refine gV_of _ _ _ _ (by simp [gV_size]) ?_ ?_ (fun q hq => ?_) ?_ <;> rw [Array.getElem?_setIfInBounds]
  · rw [if_neg (by omega), gV_0]
  · rw [if_neg (by omega), gV_1]
  · by_cases e : q = p
    · subst e; rw [if_pos rfl, if_pos (by rw [gV_size]; omega)]; simp
    · rw [if_neg (by omega), gV_h _ _ _ _ hq, if_neg e]
  · rw [if_neg (by omega), gV_s]
attribute [go_sem] gV_0 gV_1 gV_s

/-- a point of a ground. -/
def gIs (X Y a b : Int) : Prop := (0 ≤ a ∧ a ≤ X - 1) ∧ (0 ≤ b ∧ b ≤ Y - 1)
def gHead (X Y : Int) (n : Nat) : Prop := (1 ≤ X ∧ X ≤ 9) ∧ (1 ≤ Y ∧ Y ≤ 9) ∧ n ≤ 8
/-- a height in its place. -/
def gHt (X Y : Int) (h : Nat → Int) (p : Nat) : Prop := (0 ≤ h p ∧ h p ≤ 200) ∧ (h p ≠ 0 → gIs X Y ((p % 9 : Nat) : Int) ((p / 9 : Nat) : Int))
def gBef (a b a' b' : Int) : Prop := b < b' ∨ (b = b' ∧ a < a')
def gGl (X Y : Int) (c : Nat → Int) (i : Nat) : Prop := gIs X Y (c (2 * i)) (c (2 * i + 1)) ∧ ∀ j, i = j + 1 → gBef (c (2 * j)) (c (2 * j + 1)) (c (2 * i)) (c (2 * i + 1))
def gHts (X Y : Int) (h : Nat → Int) (m : Nat) : Prop := ∀ p, p < m → gHt X Y h p
def gGls (X Y : Int) (c : Nat → Int) (m : Nat) : Prop := ∀ i, i < m → gGl X Y c i
def GValid (X Y : Int) (h : Nat → Int) (n : Nat) (c : Nat → Int) : Prop := gHead X Y n ∧ gHts X Y h 81 ∧ gGls X Y c n
theorem gHts.step {X Y : Int} {h : Nat → Int} {k : Nat} (H : gHts X Y h k) (h1 : gHt X Y h k) : gHts X Y h (k + 1) := fun i hi => by
  by_cases e : i = k
  · subst e; exact h1
  · exact H i (by omega)
theorem gGls.step {X Y : Int} {c : Nat → Int} {k : Nat} (H : gGls X Y c k) (h1 : gGl X Y c k) : gGls X Y c (k + 1) := fun i hi => by
  by_cases e : i = k
  · subst e; exact h1
  · exact H i (by omega)
end Go.Proofs.YtmkcdelfgaogaaaDoor
