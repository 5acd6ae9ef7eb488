/-
  Where two gangs meet: the mathematics of MeetAt. Conditions stand at each.
-/
import Derived.Test.YtfpoikeibjojgaaDoorRows
import Derived.Test.YtfpoikeibjojgaaDoorAsk
namespace Go.Proofs.YtfpoikeibjojgaaDoor
open Go Go.ChangeShapes Go.WideShapes Go.ChangeAt Go.RowKit
set_option linter.unusedVariables false
set_option maxRecDepth 100000
set_option maxHeartbeats 2000000
/-- a row from k on. -/
def shN (d : Nat → Int) (k : Nat) : Nat → Int := fun j => d (k + j)
/-- may the first gang lay k rows, and the second the others? -/
def MeetOk (n : Nat) (c : Nat → Int) (g : Gs) (k : Nat) : Prop := ∀ j, j < n → (j < k → c j ≤ g.p 0) ∧ (k ≤ j → c j ≤ g.p 1)
def meetV (n : Nat) (d : Nat → Int) (g : Gs) (k : Nat) : Int := max (daysL (g.q 0) (g.s 0) (g.t 0) (sumN d k)) (daysL (g.q 1) (g.s 1) (g.t 1) (sumN (shN d k) (n - k)))
/-- the first of the least ones. -/
def FirstLeast (m : Nat) (ok : Nat → Prop) (f : Nat → Int) (k : Nat) : Prop := k < m ∧ ok k ∧ (∀ j, j < m → ok j → f k ≤ f j) ∧ ∀ j, j < k → ok j → f k < f j
theorem FirstLeast.one {m : Nat} {ok : Nat → Prop} {f : Nat → Int} {a b : Nat} (h : FirstLeast m ok f a) (k : FirstLeast m ok f b) : a = b := by
  obtain ⟨h1, h2, h3, h4⟩ := h
  obtain ⟨k1, k2, k3, k4⟩ := k
  rcases Nat.lt_trichotomy a b with h | h | h
  · have := k4 a h h2; have := h3 b k1 k2; omega
  · exact h
  · have := h4 b h k2; have := k3 a h1 h2; omega
theorem FirstLeast.keep {m : Nat} {ok : Nat → Prop} {f : Nat → Int} {k : Nat} (h : FirstLeast m ok f k) (h' : ok m → f k ≤ f m) : FirstLeast (m + 1) ok f k := by
  obtain ⟨h1, h2, h3, h4⟩ := h
  refine ⟨by omega, h2, fun j hj ho => ?_, h4⟩
  by_cases e : j = m
  · subst e; exact h' ho
  · exact h3 j (by omega) ho
theorem FirstLeast.new {m : Nat} {ok : Nat → Prop} {f : Nat → Int} {k : Nat} (h : FirstLeast m ok f k) (ho : ok m) (h' : f m < f k) : FirstLeast (m + 1) ok f m := by
  obtain ⟨h1, h2, h3, h4⟩ := h
  refine ⟨by omega, ho, fun j hj hoj => ?_, fun j hj hoj => ?_⟩
  · by_cases e : j = m
    · subst e; omega
    · have := h3 j (by omega) hoj; omega
  · have := h3 j hj hoj; omega
theorem FirstLeast.first {m : Nat} {ok : Nat → Prop} {f : Nat → Int} (h : ∀ j, j < m → ¬ ok j) (ho : ok m) : FirstLeast (m + 1) ok f m := by
  refine ⟨by omega, ho, fun j hj hoj => ?_, fun j hj hoj => absurd hoj (h j hj)⟩
  by_cases e : j = m
  · subst e; omega
  · exact absurd hoj (h j (by omega))
theorem meetV_bd {n : Nat} {c d : Nat → Int} {g : Gs} (hG : AllG 2 g) (hr : RowsOk n c d) (hs : sumN d n ≤ 2000) {k : Nat} (hk : k ≤ n) :
    (0 ≤ sumN d k ∧ sumN d k ≤ 2000) ∧ (0 ≤ sumN (shN d k) (n - k) ∧ sumN (shN d k) (n - k) ≤ 2000) ∧ 0 ≤ meetV n d g k := by
  have hd : ∀ j, j < n → 0 ≤ d j ∧ d j ≤ 2000 := fun j hj => ⟨by have := (hr.2 j hj).2; omega, (hr.2 j hj).2.2⟩
  have add : ∀ m, k + m ≤ n → sumN d (k + m) = sumN d k + sumN (shN d k) m := by
    intro m
    induction m with
    | zero => intro _; simp [sumN]
    | succ m ih => intro h; show sumN d (k + m) + d (k + m) = _; rw [ih (by omega)]; simp only [sumN, shN]; omega
  have h1 := add (n - k) (by omega)
  rw [show k + (n - k) = n by omega] at h1
  have a1 := sumN_bd hd k hk
  have a2 := sumN_bd (y := shN d k) (n := n - k) (fun j hj => hd (k + j) (by omega)) (n - k) (Nat.le_refl _)
  have g0 := hG 0 (by decide)
  have g1 := hG 1 (by decide)
  have z0 := daysL_bd (p := g.q 0) (k := g.s 0) (r := g.t 0) (w := sumN d k) g0.2.1.1 g0.2.2.1.1 g0.2.2.2.1 (by omega)
  refine ⟨by omega, by omega, ?_⟩
  unfold meetV
  omega
/-- rows without the first ones, or without the last ones. -/
theorem RdS.take {w : World} {B n : Nat} {A : Option Addr} {c d : Nat → Int} (h : RdS w B A n c d) {k : Nat} (hk : k ≤ n) : RdS w B A k c d := fun h0 => by
  obtain ⟨b, off, e, hl, hc⟩ := h (by omega)
  exact ⟨b, off, e, hl, fun j hj => hc j (by omega)⟩
theorem RdS.drop {w : World} {B n cap : Nat} {A : Option Addr} {c d : Nat → Int} (h : RdS w B A n c d) {k : Nat} (hk : k ≤ n) (hn : n ≤ cap) : RdS w B (if cap = k then A else A.map (·.add (k * 2))) (n - k) (shN c k) (shN d k) := fun h0 => by
  obtain ⟨b, off, e, hl, hc⟩ := h (by omega)
  subst e
  rw [if_neg (by omega)]
  refine ⟨b, off + k * 2, by simp [Addr.add], hl, fun j hj => ?_⟩
  have := hc (k + j) (by omega)
  rw [show off + (k + j) * 2 = off + k * 2 + j * 2 by omega] at this
  exact this
theorem RdU.take {w : World} {B n : Nat} {A : Option Addr} {c d : Nat → Int} (h : RdU w B A n c d) {k : Nat} (hk : k ≤ n) : RdU w B A k c d := fun h0 => by
  obtain ⟨b, off, e, hl, hc⟩ := h (by omega)
  exact ⟨b, off, e, hl, fun j hj => hc j (by omega)⟩
theorem RdU.drop {w : World} {B n cap : Nat} {A : Option Addr} {c d : Nat → Int} (h : RdU w B A n c d) {k : Nat} (hk : k ≤ n) (hn : n ≤ cap) : RdU w B (if cap = k then A else A.map (·.add (k * 2))) (n - k) (shN c k) (shN d k) := fun h0 => by
  obtain ⟨b, off, e, hl, hc⟩ := h (by omega)
  subst e
  rw [if_neg (by omega)]
  refine ⟨b, off + k * 2, by simp [Addr.add], hl, fun j hj => ?_⟩
  have := hc (k + j) (by omega)
  rw [show off + (k + j) * 2 = off + k * 2 + j * 2 by omega] at this
  exact this
theorem maxK_le {x : Nat → Int} {p : Int} (hp : 0 ≤ p) : ∀ k, maxK x k ≤ p ↔ ∀ j, j < k → x j ≤ p
  | 0 => by simp only [maxK]; exact ⟨fun _ j hj => by omega, fun _ => hp⟩
  | k + 1 => by
    have ih := maxK_le (x := x) hp k
    simp only [maxK]
    constructor
    · intro h j hj
      by_cases e : j = k
      · subst e; omega
      · exact ih.1 (by omega) j (by omega)
    · intro h
      have h1 := ih.2 fun j hj => h j (by omega)
      have h2 := h k (by omega)
      omega
/-- what the program asks of a place, and what the model asks. -/
theorem meetOk_iff {n : Nat} {c : Nat → Int} {g : Gs} {k : Nat} (hk : k ≤ n) (h0 : 0 ≤ g.p 0) (h1 : 0 ≤ g.p 1) : MeetOk n c g k ↔ maxK c k ≤ g.p 0 ∧ maxK (shN c k) (n - k) ≤ g.p 1 := by
  rw [maxK_le h0, maxK_le h1]
  constructor
  · intro h
    exact ⟨fun j hj => (h j (by omega)).1 hj, fun j hj => (h (k + j) (by omega)).2 (by omega)⟩
  · rintro ⟨a, b⟩ j hj
    refine ⟨fun h => a j h, fun h => ?_⟩
    have := b (j - k) (by omega)
    simp only [shN] at this
    rwa [show k + (j - k) = j by omega] at this
/-- two gangs as rows of numbers. -/
theorem gangs2_ex (p q s t u p' q' s' t' u' : Int) : ∃ g : Gs, (p = g.p 0 ∧ q = g.q 0 ∧ s = g.s 0 ∧ t = g.t 0 ∧ u = g.u 0) ∧ (p' = g.p 1 ∧ q' = g.q 1 ∧ s' = g.s 1 ∧ t' = g.t 1 ∧ u' = g.u 1) ∧
    (∀ j, (g.p j = p ∨ g.p j = p') ∧ (g.q j = q ∨ g.q j = q') ∧ (g.s j = s ∨ g.s j = s') ∧ (g.t j = t ∨ g.t j = t') ∧ (g.u j = u ∨ g.u j = u')) := by
  refine ⟨⟨fun j => if j = 0 then p else p', fun j => if j = 0 then q else q', fun j => if j = 0 then s else s', fun j => if j = 0 then t else t', fun j => if j = 0 then u else u'⟩, ⟨rfl, rfl, rfl, rfl, rfl⟩, ⟨rfl, rfl, rfl, rfl, rfl⟩, fun j => ?_⟩
  by_cases h : j = 0 <;> simp [h]
end Go.Proofs.YtfpoikeibjojgaaDoor
