/-
  What is lifted, and what is left: lists of slabs by numbers. Conditions stand at each.
-/
import Derived.Test.YtkggimalkjjnoaaRows
import Derived.Test.YtkggimalkjjnoaaSlabs
import Derived.Test.YtkggimalkjjnoaaLiftS
import Derived.Test.YtkggimalkjjnoaaHasN
namespace Go.Proofs.Ytkggimalkjjnoaa
open Go Go.ChangeShapes Go.WideShapes Go.ChangeAt Go.RowKit
set_option linter.unusedVariables false
set_option linter.unusedSimpArgs false
set_option maxRecDepth 100000
set_option maxHeartbeats 2000000
namespace liftAll
theorem apart_le : ∀ (n m : Nat) (l : Nat → Int), (∀ i, i < m → 0 ≤ l i ∧ l i < n) → Apart1 m l → m ≤ n
  | 0, m, l, h, _ => by
    rcases Nat.eq_zero_or_pos m with h0 | h0
    · omega
    · have := h 0 h0; omega
  | n + 1, m, l, h, ha => by
    have hne : ∀ i, i < m → ∀ j, j < m → i ≠ j → l i ≠ l j := by
      intro i hi j hj hij
      rcases Nat.lt_or_gt_of_ne hij with hl | hl
      · exact ha j hj i hl
      · exact fun e => ha i hi j hl e.symm
    by_cases hx : ∃ i, i < m ∧ l i = n
    · obtain ⟨i, hi, e⟩ := hx
      have := apart_le n (m - 1) (fun j => if j = i then l (m - 1) else l j) (fun j hj => by
        (try dsimp only)
        split
        · have h1 := h (m - 1) (by omega)
          have h2 := hne (m - 1) (by omega) i hi (by omega)
          omega
        · rename_i hji
          have h1 := h j (by omega)
          have h2 := hne j (by omega) i hi hji
          omega) (fun a ha' b hb => by
        (try dsimp only)
        split <;> split
        · omega
        · exact hne _ (by omega) _ (by omega) (by omega)
        · exact hne _ (by omega) _ (by omega) (by omega)
        · exact hne _ (by omega) _ (by omega) (by omega))
      omega
    · have := apart_le n m l (fun j hj => by
        have h1 := h j hj
        have h2 : l j ≠ n := fun e => hx ⟨j, hj, e⟩
        omega) ha
      omega
/-- the slabs that are lifted. -/
def upV (c l : Nat → Int) : Nat → List Value
  | 0 => []
  | i + 1 => upV c l i ++ fourV c (l i).toNat
theorem upV_length (c l : Nat → Int) : ∀ i, (upV c l i).length = i * 4
  | 0 => rfl
  | i + 1 => by
    show (upV c l i ++ fourV c (l i).toNat).length = _
    rw [List.length_append, upV_length c l i]
    simp only [fourV, List.length_cons, List.length_nil]
    omega

open Classical in
noncomputable def leftV (c : Nat → Int) (m : Nat) (l : Nat → Int) : Nat → List Value
  | 0 => []
  | i + 1 => if InL m l (i : Int) then leftV c m l i else leftV c m l i ++ fourV c i
open Classical in
noncomputable def leftK (m : Nat) (l : Nat → Int) : Nat → Nat
  | 0 => 0
  | i + 1 => if InL m l (i : Int) then leftK m l i else leftK m l i + 1
theorem left_in {m : Nat} {c l : Nat → Int} {i : Nat} (h : InL m l (i : Int)) : leftV c m l (i + 1) = leftV c m l i ∧ leftK m l (i + 1) = leftK m l i := ⟨if_pos h, if_pos h⟩
theorem left_out {m : Nat} {c l : Nat → Int} {i : Nat} (h : ¬ InL m l (i : Int)) : leftV c m l (i + 1) = leftV c m l i ++ fourV c i ∧ leftK m l (i + 1) = leftK m l i + 1 := ⟨if_neg h, if_neg h⟩
theorem leftK_le (m : Nat) (l : Nat → Int) : ∀ i, leftK m l i ≤ i
  | 0 => Nat.le_refl _
  | i + 1 => by
    have := leftK_le m l i
    by_cases h : InL m l (i : Int)
    · rw [(left_in (c := fun _ => 0) h).2]; omega
    · rw [(left_out (c := fun _ => 0) h).2]; omega
theorem _root_.Go.Proofs.Ytkggimalkjjnoaa.OwnS.below {w w' : World} {base n : Nat} {v : Value} {L : List Value} (h : OwnS w base v n L) (hb : Below w.heap.size w w') : OwnS w' base v n L := by
  refine ⟨h.1, h.2.imp id ?_⟩
  rintro ⟨g, cap, cur, rfl, hg, hw, r⟩
  exact ⟨g, cap, cur, rfl, hg, (hb.block g (Array.getElem?_eq_some_iff.1 hw).1).trans hw, r⟩
theorem leftV_length (c : Nat → Int) (m : Nat) (l : Nat → Int) : ∀ i, (leftV c m l i).length = leftK m l i * 4
  | 0 => rfl
  | i + 1 => by
    have := leftV_length c m l i
    by_cases h : InL m l (i : Int)
    · rw [(left_in h).1, (left_in (c := c) h).2, this]
    · rw [(left_out h).1, (left_out (c := c) h).2, List.length_append, this]
      simp only [fourV, List.length_cons, List.length_nil]
      omega
def I8 (u : Value) : Prop := ∃ x, u = .int .i8 x
theorem four_i8 (c : Nat → Int) (i : Nat) : ∀ u ∈ fourV c i, I8 u := by
  intro u hu
  simp [fourV] at hu
  rcases hu with rfl | rfl | rfl | rfl <;> exact ⟨_, rfl⟩
theorem upV_i8 (c l : Nat → Int) : ∀ i, ∀ u ∈ upV c l i, I8 u
  | 0, u, hu => by cases hu
  | i + 1, u, hu => by
    rcases List.mem_append.1 (show u ∈ upV c l i ++ fourV c (l i).toNat from hu) with h | h
    · exact upV_i8 c l i u h
    · exact four_i8 _ _ u h
theorem leftV_i8 (c : Nat → Int) (m : Nat) (l : Nat → Int) : ∀ i, ∀ u ∈ leftV c m l i, I8 u
  | 0, u, hu => by cases hu
  | i + 1, u, hu => by
    by_cases h : InL m l (i : Int)
    · rw [(left_in h).1] at hu
      exact leftV_i8 c m l i u hu
    · rw [(left_out h).1] at hu
      rcases List.mem_append.1 hu with h' | h'
      · exact leftV_i8 c m l i u h'
      · exact four_i8 _ _ u h'
def numOf : Value → Int
  | .int _ x => x
  | _ => 0
/-- the numbers in a list of cells. -/
def ffOf (L : List Value) (j : Nat) : Int := numOf (L.getD j (.int .i8 0))
theorem ffOf_get {L : List Value} (h : ∀ u ∈ L, I8 u) {j : Nat} (hj : j < L.length) : L[j]? = some (.int .i8 (ffOf L j)) := by
  obtain ⟨x, hx⟩ := h _ (List.getElem_mem hj)
  rw [List.getElem?_eq_getElem hj, hx]
  unfold ffOf
  rw [List.getD_eq_getElem?_getD, List.getElem?_eq_getElem hj, Option.getD_some, hx]
  rfl
theorem has_of {w : World} {base : Nat} {v : Value} {n : Nat} {L : List Value} (h : w.ownsRow base 55 4 v n L) (hL : ∀ u ∈ L, I8 u) : HasSlice .i8 4 w base v n (ffOf L) :=
  own_has h fun j hj => ffOf_get hL (by rw [h.1]; omega)
theorem apartV {v1 v : Value} {a s b : Nat} (h1 : ∀ k, v1.ownBlock = some k → a ≤ k ∧ k < s) (h2 : ∀ k, v.ownBlock = some k → s + 1 ≤ k ∧ k < b) : v.ownBlock = none ∨ v.ownBlock ≠ v1.ownBlock := by
  cases hv : v.ownBlock with
  | none => exact .inl rfl
  | some k =>
    refine .inr fun e => ?_
    have := (h2 k hv).1
    have := (h1 k e.symm).2
    omega
theorem apartN {v1 v : Value} {a s b : Nat} (h1 : ∀ k, v1.ownBlock = some k → a ≤ k ∧ k < s) (h2 : ∀ k, v.ownBlock = some k → s + 1 ≤ k ∧ k < b) : v1.ownBlock = none ∨ v1.ownBlock ≠ v.ownBlock := by
  cases hv : v1.ownBlock with
  | none => exact .inl rfl
  | some k =>
    refine .inr fun e => ?_
    have := (h2 k e.symm).1
    have := (h1 k hv).2
    omega
theorem apartW {v1 v : Value} {a s b : Nat} (h1 : ∀ k, v1.ownBlock = some k → a ≤ k ∧ k < s) (h2 : ∀ k, v.ownBlock = some k → s ≤ k ∧ k < b) : v.ownBlock = none ∨ v.ownBlock ≠ v1.ownBlock := by
  cases hv : v.ownBlock with
  | none => exact .inl rfl
  | some k =>
    refine .inr fun e => ?_
    have := (h2 k hv).1
    have := (h1 k e.symm).2
    omega
theorem apartM {v1 v : Value} {a s b : Nat} (h1 : ∀ k, v1.ownBlock = some k → a ≤ k ∧ k < s) (h2 : ∀ k, v.ownBlock = some k → s ≤ k ∧ k < b) : v1.ownBlock = none ∨ v1.ownBlock ≠ v.ownBlock := by
  cases hv : v1.ownBlock with
  | none => exact .inl rfl
  | some k =>
    refine .inr fun e => ?_
    have := (h2 k e.symm).1
    have := (h1 k hv).2
    omega
theorem _root_.Go.Proofs.Ytkggimalkjjnoaa.OwnS.other {w : World} {base n b o : Nat} {v u : Value} {L : List Value} (h : OwnS w base v n L) (hb : v.ownBlock ≠ some b) : OwnS (w.setCell ⟨b, o, none⟩ u) base v n L := by
  refine ⟨h.1, h.2.imp id ?_⟩
  rintro ⟨g, cap, cur, rfl, h2, h3, h4⟩
  exact ⟨g, cap, cur, rfl, h2, (Below.heap_setCell w _ _ _ (by show g ≠ b; intro e; exact hb (by rw [e]; rfl))).trans h3, h4⟩
/-- the answers of LiftAll. -/
def Bad (k : Int) (w : World) (e : Ending) (w' : World) : Prop := Below w.heap.size w w' ∧ ∃ v0 v1, e = .returned (.tuple #[.agg #[.int .i8 0, .int .i8 0, v0], v1, .int .i64 k]) ∧ w'.ownsRow w.heap.size 55 4 v0 0 [] ∧ w'.ownsRow w.heap.size 55 4 v1 0 [] ∧ (v0.ownBlock = none ∨ v0.ownBlock ≠ v1.ownBlock)
def Good (X Y : Int) (n : Nat) (c : Nat → Int) (m : Nat) (l : Nat → Int) (w : World) (e : Ending) (w' : World) : Prop := Below w.heap.size w w' ∧ ∃ v0 v1, e = .returned (.tuple #[.agg #[.int .i8 X, .int .i8 Y, v0], v1, .int .i64 0]) ∧ w'.ownsRow w.heap.size 55 4 v0 (leftK m l n) (leftV c m l n) ∧ w'.ownsRow w.heap.size 55 4 v1 m (upV c l m) ∧ (v0.ownBlock = none ∨ v0.ownBlock ≠ v1.ownBlock)
def InAll (n m : Nat) (l : Nat → Int) : Prop := ∀ i, i < m → 0 ≤ l i ∧ l i < n
def Post (X Y : Int) (n : Nat) (c : Nat → Int) (m : Nat) (l : Nat → Int) (w : World) (e : Ending) (w' : World) : Prop :=
  (¬ Valid X Y n c ∧ Bad 1 w e w') ∨ (Valid X Y n c ∧ ¬ InAll n m l ∧ Bad 2 w e w') ∨ (Valid X Y n c ∧ InAll n m l ∧ ¬ Apart1 m l ∧ Bad 4 w e w') ∨ (Valid X Y n c ∧ InAll n m l ∧ Apart1 m l ∧ Good X Y n c m l w e w')
end liftAll
end Go.Proofs.Ytkggimalkjjnoaa
