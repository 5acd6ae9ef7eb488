/-
  The numbers of FillRow: the model's table with -1 for none, the program's with 361, and the counts that both find. No condition.
-/
import Derived.WalkKit
import Derived.Test.YtjeccdmhpbaabaaRows
import Derived.Test.YtjeccdmhpbaabaaWaysM
namespace Go.Proofs.Ytjeccdmhpbaabaa
open Go Go.RowKit
set_option linter.unusedVariables false
set_option linter.unusedSimpArgs false

/-- the model's way through the counts of one sort. -/
def tS (g : Nat → Int) (b a : Nat) : Nat → Int
  | 0 => -1
  | k + 1 => if 0 ≤ g (a - k * b) ∧ (tS g b a k < 0 ∨ g (a - k * b) + k < tS g b a k) then g (a - k * b) + k else tS g b a k
/-- the program's. -/
def fS (g : Nat → Int) (b a : Nat) : Nat → Int
  | 0 => 361
  | k + 1 => if k + g (a - k * b) < fS g b a k then k + g (a - k * b) else fS g b a k
/-- the fewest setts of the sorts from n - m on, m of them. -/
def tT (b q : Nat → Nat) (n : Nat) : Nat → Nat → Int
  | 0 => fun a => if a = 0 then 0 else -1
  | m + 1 => fun a => tS (tT b q n m) (b (n - (m + 1))) a (fitN (b (n - (m + 1))) (q (n - (m + 1))) a)
def fT (b q : Nat → Nat) (n : Nat) : Nat → Nat → Int
  | 0 => fun a => if a = 0 then 0 else 361
  | m + 1 => fun a => fS (fT b q n m) (b (n - (m + 1))) a (fitN (b (n - (m + 1))) (q (n - (m + 1))) a)
/-- .. of the sorts from i on. -/
def TT (b q : Nat → Nat) (n i a : Nat) : Int := tT b q n (n - i) a
def FF (b q : Nat → Nat) (n i a : Nat) : Int := fT b q n (n - i) a
theorem TT_end (b q : Nat → Nat) (n a : Nat) : TT b q n n a = if a = 0 then 0 else -1 := by unfold TT; rw [Nat.sub_self]; rfl
theorem FF_end (b q : Nat → Nat) (n a : Nat) : FF b q n n a = if a = 0 then 0 else 361 := by unfold FF; rw [Nat.sub_self]; rfl
theorem TT_step (b q : Nat → Nat) (n i a : Nat) (h : i < n) : TT b q n i a = tS (TT b q n (i + 1)) (b i) a (fitN (b i) (q i) a) := by
  unfold TT
  obtain ⟨m, hm⟩ : ∃ m, n - i = m + 1 := ⟨n - i - 1, by omega⟩
  rw [hm, show n - (i + 1) = m by omega]
  show tS (tT b q n m) (b (n - (m + 1))) a (fitN (b (n - (m + 1))) (q (n - (m + 1))) a) = _
  rw [show n - (m + 1) = i by omega]
theorem FF_step (b q : Nat → Nat) (n i a : Nat) (h : i < n) : FF b q n i a = fS (FF b q n (i + 1)) (b i) a (fitN (b i) (q i) a) := by
  unfold FF
  obtain ⟨m, hm⟩ : ∃ m, n - i = m + 1 := ⟨n - i - 1, by omega⟩
  rw [hm, show n - (i + 1) = m by omega]
  show fS (fT b q n m) (b (n - (m + 1))) a (fitN (b (n - (m + 1))) (q (n - (m + 1))) a) = _
  rw [show n - (m + 1) = i by omega]
/-- none is 361 for the program, and -1 for the model. -/
def asF (t : Int) : Int := if t < 0 then 361 else t
theorem two_same (g h : Nat → Int) (b a B : Nat) (hB : B ≤ 300) (hg : ∀ x, g x = asF (h x) ∧ -1 ≤ h x ∧ h x ≤ B) : ∀ k, k ≤ 61 → fS g b a k = asF (tS h b a k) ∧ -1 ≤ tS h b a k ∧ tS h b a k ≤ B + 60
  | 0, _ => ⟨rfl, by show (-1 : Int) ≤ -1; omega, by show (-1 : Int) ≤ B + 60; omega⟩
  | k + 1, hk => by
    obtain ⟨i1, i2, i3⟩ := two_same g h b a B hB hg k (by omega)
    obtain ⟨j1, j2, j3⟩ := hg (a - k * b)
    obtain ⟨t, ht⟩ : ∃ t, t = tS h b a k := ⟨_, rfl⟩
    obtain ⟨u, hu⟩ : ∃ u, u = h (a - k * b) := ⟨_, rfl⟩
    rw [fS, tS, i1, j1, ← ht, ← hu]
    rw [← ht] at i2 i3
    rw [← hu] at j2 j3
    unfold asF
    by_cases hu0 : u < 0
    · rw [if_pos hu0, if_neg (show ¬ (0 ≤ u ∧ (t < 0 ∨ u + k < t)) by omega)]
      by_cases ht0 : t < 0
      · rw [if_pos ht0, if_neg (by omega)]
        exact ⟨rfl, by omega, by omega⟩
      · rw [if_neg ht0, if_neg (by omega)]
        exact ⟨rfl, by omega, by omega⟩
    · rw [if_neg hu0]
      by_cases ht0 : t < 0
      · have hC : 0 ≤ u ∧ (t < 0 ∨ u + k < t) := ⟨by omega, .inl ht0⟩
        rw [if_pos hC, if_pos ht0, if_pos (by omega), if_neg (by omega)]
        exact ⟨by omega, by omega, by omega⟩
      · by_cases hlt : u + k < t
        · have hC : 0 ≤ u ∧ (t < 0 ∨ u + k < t) := ⟨by omega, .inr hlt⟩
          rw [if_pos hC, if_neg ht0, if_pos (by omega), if_neg (by omega)]
          exact ⟨by omega, by omega, by omega⟩
        · have hC : ¬ (0 ≤ u ∧ (t < 0 ∨ u + k < t)) := by omega
          rw [if_neg hC, if_neg ht0, if_neg (by omega)]
          exact ⟨rfl, by omega, by omega⟩
theorem fitN_61 {b q a : Nat} (hq : q ≤ 60) : fitN b q a ≤ 61 := by unfold fitN; omega
theorem fT_tT (b q : Nat → Nat) (n : Nat) (hn : n ≤ 6) (hq : ∀ i, q i ≤ 60) : ∀ m, m ≤ n → ∀ a, fT b q n m a = asF (tT b q n m a) ∧ -1 ≤ tT b q n m a ∧ tT b q n m a ≤ 60 * m
  | 0, _, a => by
    show (if a = 0 then (0 : Int) else 361) = asF (if a = 0 then 0 else -1) ∧ -1 ≤ (if a = 0 then (0 : Int) else -1) ∧ (if a = 0 then (0 : Int) else -1) ≤ 60 * (0 : Nat)
    by_cases h : a = 0
    · rw [if_pos h, if_pos h]; exact ⟨rfl, by omega, by omega⟩
    · rw [if_neg h, if_neg h]; exact ⟨rfl, by omega, by omega⟩
  | m + 1, hm, a => by
    have ih := fT_tT b q n hn hq m (by omega)
    have := two_same (fT b q n m) (tT b q n m) (b (n - (m + 1))) a (60 * m) (by omega) (fun x => by have := ih x; exact ⟨this.1, this.2.1, by have := this.2.2; omega⟩) (fitN (b (n - (m + 1))) (q (n - (m + 1))) a) (fitN_61 (hq _))
    exact ⟨this.1, this.2.1, by have := this.2.2; show tS _ _ _ _ ≤ _; omega⟩
theorem FF_TT (b q : Nat → Nat) (n i a : Nat) (hn : n ≤ 6) (hq : ∀ i, q i ≤ 60) : FF b q n i a = asF (TT b q n i a) ∧ -1 ≤ TT b q n i a ∧ TT b q n i a ≤ 360 := by
  have := fT_tT b q n hn hq (n - i) (by omega) a
  exact ⟨this.1, this.2.1, by have := this.2.2; show tT _ _ _ _ _ ≤ _; omega⟩
theorem FF_room (b q : Nat → Nat) (n i a : Nat) (hn : n ≤ 6) (hq : ∀ i, q i ≤ 60) : 0 ≤ FF b q n i a ∧ FF b q n i a ≤ 361 := by
  obtain ⟨h1, h2, h3⟩ := FF_TT b q n i a hn hq
  rw [h1]
  unfold asF
  by_cases h : TT b q n i a < 0
  · rw [if_pos h]; omega
  · rw [if_neg h]; omega
theorem tT_zero (b q : Nat → Nat) (n : Nat) (hb : ∀ i, 1 ≤ b i) : ∀ m, tT b q n m 0 = 0
  | 0 => rfl
  | m + 1 => by
    have ih := tT_zero b q n hb m
    have hf : fitN (b (n - (m + 1))) (q (n - (m + 1))) 0 = 1 := by unfold fitN; rw [Nat.zero_div]; omega
    show tS (tT b q n m) (b (n - (m + 1))) 0 (fitN (b (n - (m + 1))) (q (n - (m + 1))) 0) = 0
    rw [hf, tS, tS, Nat.zero_sub, ih]
    rfl
theorem FF_zero (b q : Nat → Nat) (n i : Nat) (hn : n ≤ 6) (hq : ∀ i, q i ≤ 60) (hb : ∀ i, 1 ≤ b i) : FF b q n i 0 = 0 := by
  have h := (FF_TT b q n i 0 hn hq).1
  have h0 : TT b q n i 0 = 0 := tT_zero b q n hb _
  rw [h, h0]; rfl
/-- a count that the model takes is found among those that fit. -/
theorem tS_hit (g : Nat → Int) (b a : Nat) : ∀ k, 0 ≤ tS g b a k → ∃ j, j < k ∧ 0 ≤ g (a - j * b) ∧ g (a - j * b) + j = tS g b a k
  | 0, h => absurd h (by show ¬ (0 : Int) ≤ -1; omega)
  | k + 1, h => by
    rw [tS] at h ⊢
    by_cases hc : 0 ≤ g (a - k * b) ∧ (tS g b a k < 0 ∨ g (a - k * b) + k < tS g b a k)
    · rw [if_pos hc]
      exact ⟨k, by omega, hc.1, rfl⟩
    · rw [if_neg hc] at h ⊢
      obtain ⟨j, h1, h2, h3⟩ := tS_hit g b a k h
      exact ⟨j, by omega, h2, h3⟩
theorem tS_least (g : Nat → Int) (b a : Nat) : ∀ k j, j < k → 0 ≤ g (a - j * b) → 0 ≤ tS g b a k ∧ tS g b a k ≤ g (a - j * b) + j
  | 0, j, h, _ => absurd h (by omega)
  | k + 1, j, h, hg => by
    rw [tS]
    by_cases e : j = k
    · subst e
      by_cases hc : 0 ≤ g (a - j * b) ∧ (tS g b a j < 0 ∨ g (a - j * b) + j < tS g b a j)
      · rw [if_pos hc]; omega
      · rw [if_neg hc]; omega
    · have ih := tS_least g b a k j (by omega) hg
      by_cases hc : 0 ≤ g (a - k * b) ∧ (tS g b a k < 0 ∨ g (a - k * b) + k < tS g b a k)
      · rw [if_pos hc]; omega
      · rw [if_neg hc]; exact ih
theorem least_of {p : Nat → Prop} : ∀ k, p k → ∃ m, m ≤ k ∧ p m ∧ ∀ j, j < m → ¬ p j := by
  intro k
  induction k using Nat.strongRecOn with
  | ind k ih =>
    intro hk
    by_cases h : ∃ j, j < k ∧ p j
    · obtain ⟨j, h1, h2⟩ := h
      obtain ⟨m, m1, m2, m3⟩ := ih j h1 h2
      exact ⟨m, by omega, m2, m3⟩
    · exact ⟨k, Nat.le_refl _, hk, fun j hj hp => h ⟨j, hj, hp⟩⟩
/-- the count that is taken of sort i where room a is left. -/
def goodK (b q : Nat → Nat) (n i a k : Nat) : Prop := 0 ≤ TT b q n (i + 1) (a - k * b i) ∧ TT b q n (i + 1) (a - k * b i) + k = TT b q n i a
open Classical in
noncomputable def kOf (b q : Nat → Nat) (n i a : Nat) : Nat := if h : ∃ k, (k < fitN (b i) (q i) a ∧ goodK b q n i a k) ∧ ∀ j, j < k → ¬ goodK b q n i a j then Classical.choose h else 0
theorem kOf_spec (b q : Nat → Nat) (n i a : Nat) (hi : i < n) (h : 0 ≤ TT b q n i a) : kOf b q n i a < fitN (b i) (q i) a ∧ goodK b q n i a (kOf b q n i a) ∧ ∀ j, j < kOf b q n i a → ¬ goodK b q n i a j := by
  have hs := TT_step b q n i a hi
  have hit := tS_hit (TT b q n (i + 1)) (b i) a (fitN (b i) (q i) a) (by rw [← hs]; exact h)
  obtain ⟨j, h1, h2, h3⟩ := hit
  obtain ⟨m, m1, m2, m3⟩ := least_of (p := goodK b q n i a) j ⟨h2, by rw [h3, hs]⟩
  have hex : ∃ k, (k < fitN (b i) (q i) a ∧ goodK b q n i a k) ∧ ∀ j, j < k → ¬ goodK b q n i a j := ⟨m, ⟨by omega, m2⟩, m3⟩
  unfold kOf
  rw [dif_pos hex]
  have := Classical.choose_spec hex
  exact ⟨this.1.1, this.1.2, this.2⟩
/-- the room that is left ahead of sort i. -/
noncomputable def aN (b q : Nat → Nat) (n L : Nat) : Nat → Nat
  | 0 => L
  | i + 1 => aN b q n L i - kOf b q n i (aN b q n L i) * b i
noncomputable def kN (b q : Nat → Nat) (n L i : Nat) : Nat := kOf b q n i (aN b q n L i)
theorem aN_ok (b q : Nat → Nat) (n L : Nat) (h : 0 ≤ TT b q n 0 L) : ∀ i, i ≤ n → 0 ≤ TT b q n i (aN b q n L i) ∧ aN b q n L i ≤ L
  | 0, _ => ⟨h, Nat.le_refl _⟩
  | i + 1, hi => by
    have ih := aN_ok b q n L h i (by omega)
    have hk := kOf_spec b q n i (aN b q n L i) (by omega) ih.1
    exact ⟨hk.2.1.1, by show aN b q n L i - _ ≤ L; omega⟩
/-- the program goes on just as long as the model does. -/
theorem more_iff (b q : Nat → Nat) (n i a k : Nat) (hn : n ≤ 6) (hq : ∀ i, q i ≤ 60) (hi : i < n) (h : 0 ≤ TT b q n i a) (hk : k < fitN (b i) (q i) a) : (FF b q n i a < k + FF b q n (i + 1) (a - k * b i)) ↔ ¬ goodK b q n i a k := by
  obtain ⟨e1, _, _⟩ := FF_TT b q n i a hn hq
  obtain ⟨e2, f2, f3⟩ := FF_TT b q n (i + 1) (a - k * b i) hn hq
  rw [e1, e2]
  have h360 := (FF_TT b q n i a hn hq).2.2
  unfold asF goodK
  rw [if_neg (show ¬ TT b q n i a < 0 by omega)]
  by_cases hu : TT b q n (i + 1) (a - k * b i) < 0
  · rw [if_pos hu]
    constructor
    · intro _ hh; omega
    · intro _; omega
  · rw [if_neg hu]
    have hl := (tS_least (TT b q n (i + 1)) (b i) a (fitN (b i) (q i) a) k hk (by omega)).2
    rw [← TT_step b q n i a hi] at hl
    constructor
    · intro h1 h2; omega
    · intro h1
      by_cases e : TT b q n (i + 1) (a - k * b i) + k = TT b q n i a
      · exact absurd ⟨by omega, e⟩ h1
      · omega
end Go.Proofs.Ytjeccdmhpbaabaa
