/-
  Slabs loaded in their order: the mathematics. Conditions stand at each.
-/
import Derived.Test.YtkggimalkjjnoaaRows
import Derived.Test.YtkggimalkjjnoaaWeight
namespace Go.Proofs.Ytkggimalkjjnoaa
open Go
set_option linter.unusedVariables false
set_option linter.unusedSimpArgs false

/-- the weight of slab j of a list. -/
def wt (c : Nat → Int) (j : Nat) : Int := wtOf (c (4 * j + 2)) (c (4 * j + 3))
theorem wt_bd (c : Nat → Int) (j : Nat) : 0 ≤ wt c j ∧ wt c j ≤ 576 := wtOf_bd _ _
/-- the weights of the first slabs. -/
def wtL (c : Nat → Int) (k : Nat) : List Int := (List.range k).map (wt c)
theorem wtL_length (c : Nat → Int) (k : Nat) : (wtL c k).length = k := by simp [wtL]
theorem wtL_succ (c : Nat → Int) (k : Nat) : wtL c (k + 1) = wtL c k ++ [wt c k] := by simp [wtL, List.range_succ]
theorem wtL_get (c : Nat → Int) {k j : Nat} (h : j < k) : (wtL c k).getD j 0 = wt c j := by simp [wtL, List.getD, h]
/-- slabs that are loaded have weights. -/
def HeavyOk (n : Nat) (c : Nat → Int) : Prop := ∀ j, j < n → wt c j ≠ 0
/-- the code of slabs that are loaded. -/
def HvCode (n : Nat) (c : Nat → Int) (r : Int) : Prop := (¬ HeavyOk n c ∧ r = 1) ∨ (HeavyOk n c ∧ 10 < n ∧ r = 3) ∨ (HeavyOk n c ∧ n ≤ 10 ∧ r = 0)
/-- the code of slabs and barrows. -/
def LdCode (n : Nat) (c : Nat → Int) (h r : Int) : Prop :=
  (r ≠ 0 ∧ HvCode n c r) ∨ (HeavyOk n c ∧ n ≤ 10 ∧ ((¬ (1 ≤ h ∧ h ≤ 600) ∧ r = 2) ∨ ((1 ≤ h ∧ h ≤ 600) ∧ ((¬ (∀ j, j < n → wt c j ≤ h) ∧ r = 6) ∨ ((∀ j, j < n → wt c j ≤ h) ∧ r = 0)))))
theorem HvCode.one {n : Nat} {c : Nat → Int} {r s : Int} (h : HvCode n c r) (k : HvCode n c s) : r = s := by
  rcases h with ⟨a, rfl⟩ | ⟨a, b, rfl⟩ | ⟨a, b, rfl⟩ <;> rcases k with ⟨a', rfl⟩ | ⟨a', b', rfl⟩ | ⟨a', b', rfl⟩ <;> first | rfl | omega | exact absurd a' a | exact absurd a a'
theorem LdCode.one {n : Nat} {c : Nat → Int} {h r s : Int} (k : LdCode n c h r) (l : LdCode n c h s) : r = s := by
  rcases k with ⟨r0, k⟩ | ⟨k1, k2, k⟩
  · rcases l with ⟨s0, l⟩ | ⟨l1, l2, l⟩
    · exact k.one l
    · rcases k with ⟨a, rfl⟩ | ⟨a, b, rfl⟩ | ⟨a, b, rfl⟩
      · exact absurd l1 a
      · omega
      · omega
  · rcases l with ⟨s0, l⟩ | ⟨l1, l2, l⟩
    · rcases l with ⟨a, rfl⟩ | ⟨a, b, rfl⟩ | ⟨a, b, rfl⟩
      · exact absurd k1 a
      · omega
      · omega
    · rcases k with ⟨a, rfl⟩ | ⟨a, ⟨b, rfl⟩ | ⟨b, rfl⟩⟩ <;> rcases l with ⟨a', rfl⟩ | ⟨a', ⟨b', rfl⟩ | ⟨b', rfl⟩⟩ <;> first | rfl | exact absurd a' a | exact absurd a a' | exact absurd b' b | exact absurd b b'

/-- how many loads there are behind k slabs, and the room that is left in the last one. -/
def bl (h : Int) (f : Nat → Int) : Nat → Int × Int
  | 0 => (0, 0)
  | k + 1 => if (bl h f k).2 < f k then ((bl h f k).1 + 1, h - f k) else ((bl h f k).1, (bl h f k).2 - f k)
def blL (h : Int) (f : Nat → Int) (k : Nat) : List Int := (List.range k).map fun j => (bl h f (j + 1)).1 - 1
theorem blL_length (h : Int) (f : Nat → Int) (k : Nat) : (blL h f k).length = k := by simp [blL]
theorem blL_succ (h : Int) (f : Nat → Int) (k : Nat) : blL h f (k + 1) = blL h f k ++ [(bl h f (k + 1)).1 - 1] := by simp [blL, List.range_succ]
theorem bl_yes {h : Int} {f : Nat → Int} {k : Nat} (e : (bl h f k).2 < f k) : bl h f (k + 1) = ((bl h f k).1 + 1, h - f k) := by
  show (if _ then _ else _) = _
  rw [if_pos e]
theorem bl_no {h : Int} {f : Nat → Int} {k : Nat} (e : ¬ (bl h f k).2 < f k) : bl h f (k + 1) = ((bl h f k).1, (bl h f k).2 - f k) := by
  show (if _ then _ else _) = _
  rw [if_neg e]
theorem bl_bd {h : Int} {f : Nat → Int} {n : Nat} (h0 : 0 ≤ h) (hf : ∀ j, j < n → 0 < f j ∧ f j ≤ h) : ∀ k, k ≤ n → 0 ≤ (bl h f k).1 ∧ (bl h f k).1 ≤ (k : Int) ∧ 0 ≤ (bl h f k).2 ∧ (bl h f k).2 ≤ h ∧ (0 < k → 1 ≤ (bl h f k).1)
  | 0, _ => by simp [bl]; omega
  | k + 1, hk => by
    have ih := bl_bd h0 hf k (by omega)
    have hk' := hf k (by omega)
    by_cases e : (bl h f k).2 < f k
    · rw [bl_yes e]; dsimp only; omega
    · rw [bl_no e]; dsimp only
      rcases Nat.eq_zero_or_pos k with rfl | hp
      · simp [bl] at e; omega
      · have := ih.2.2.2.2 hp; omega
end Go.Proofs.Ytkggimalkjjnoaa
