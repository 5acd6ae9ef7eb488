/-
  The first of the least of some numbers; rows that are turned. No condition.
-/
import Derived.Test.YtjeccdmhpbaabaaRows
import Derived.Test.YtjeccdmhpbaabaaTurned
import Derived.Test.YtjeccdmhpbaabaaRow
import Derived.Test.YtjeccdmhpbaabaaCommonM
namespace Go.Proofs.Ytjeccdmhpbaabaa
open Go Go.RowKit
set_option linter.unusedVariables false
set_option linter.unusedSimpArgs false

/-- the first of the least of f 0, .. f (k - 1), and what it is; nothing yet at 0. -/
def amS (f : Nat → Int) : Nat → Int × Int
  | 0 => (0, 0)
  | k + 1 => if k = 0 ∨ f k < (amS f k).2 then ((k : Int), f k) else amS f k
theorem amS_yes {f : Nat → Int} {k : Nat} (h : k = 0 ∨ f k < (amS f k).2) : amS f (k + 1) = ((k : Int), f k) := if_pos h
theorem amS_no {f : Nat → Int} {k : Nat} (h0 : k ≠ 0) (h : ¬ f k < (amS f k).2) : amS f (k + 1) = amS f k := if_neg (fun hh => hh.elim h0 h)
theorem amS_congr {f g : Nat → Int} : ∀ n, (∀ k, k < n → f k = g k) → amS f n = amS g n
  | 0, _ => rfl
  | n + 1, h => by
    rw [amS, amS, amS_congr n (fun k hk => h k (by omega)), h n (by omega)]
theorem turn_rowOk {m k : Nat} {d : Nat → Int} (h : RowOk m d) (hk : k < m) : RowOk m (turnC m k d) := by
  refine ⟨h.1, fun j hj => ?_⟩
  unfold turnC
  by_cases e : k + j < m
  · rw [if_pos e]; exact h.2 _ e
  · rw [if_neg e]; exact h.2 _ (by omega)
theorem RdK.congr {kd : IntKind} {w : World} {B n : Nat} {A : Option Addr} {c d : Nat → Int} (h : RdK kd w B A n c) (e : ∀ j, j < n → c j = d j) : RdK kd w B A n d := fun h0 => by
  obtain ⟨b, off, e1, h1, h2⟩ := h h0
  exact ⟨b, off, e1, h1, fun j hj => by rw [← e j hj]; exact h2 j hj⟩
end Go.Proofs.Ytjeccdmhpbaabaa
