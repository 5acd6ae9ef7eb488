/-
  Plans: which are right, their runs of rows behind each other, the days and the cost of the runs: mathematics. Conditions stand at each.
-/
import Derived.Test.YtfpoikeibjojgaaDoorRows
import Derived.Test.YtfpoikeibjojgaaDoorJob
import Derived.Test.YtfpoikeibjojgaaDoorGangM
namespace Go.Proofs.YtfpoikeibjojgaaDoor
set_option linter.unusedVariables false
set_option maxRecDepth 100000
/-- a plan of k numbers that is right for n rows and m gangs. -/
def RightP (n : Nat) (c : Nat → Int) (m : Nat) (g : Gs) (k : Nat) (pl : Nat → Int) : Prop := k = n ∧ ∀ i, i < n → (0 ≤ pl i ∧ pl i < m) ∧ c i ≤ g.p (pl i).toNat
/-- a new run begins at row i. -/
def newR (pl : Nat → Int) (i : Nat) : Prop := i = 0 ∨ pl i ≠ pl (i - 1)
instance (pl : Nat → Int) (i : Nat) : Decidable (newR pl i) := by unfold newR; infer_instance
/-- how many runs the first i rows have, the gang of each, the work of each. -/
def rn (pl : Nat → Int) : Nat → Nat
  | 0 => 0
  | i + 1 => if newR pl i then rn pl i + 1 else rn pl i
def rgg (pl : Nat → Int) : Nat → Nat → Int
  | 0 => fun _ => 0
  | i + 1 => upd (rgg pl i) (rn pl (i + 1) - 1) (pl i)
def rwk (d pl : Nat → Int) : Nat → Nat → Int
  | 0 => fun _ => 0
  | i + 1 => if newR pl i then upd (rwk d pl i) (rn pl i) (d i) else upd (rwk d pl i) (rn pl i - 1) (rwk d pl i (rn pl i - 1) + d i)
theorem rn_new {pl : Nat → Int} {i : Nat} (h : newR pl i) : rn pl (i + 1) = rn pl i + 1 := by rw [rn, if_pos h]
theorem rn_old {pl : Nat → Int} {i : Nat} (h : ¬ newR pl i) : rn pl (i + 1) = rn pl i := by rw [rn, if_neg h]
theorem rn_bd (pl : Nat → Int) : ∀ i, rn pl i ≤ i ∧ (0 < i → 0 < rn pl i)
  | 0 => ⟨Nat.le_refl _, fun h => h⟩
  | i + 1 => by
    obtain ⟨h1, h2⟩ := rn_bd pl i
    by_cases h : newR pl i
    · rw [rn_new h]; exact ⟨by omega, fun _ => by omega⟩
    · rw [rn_old h]
      have : i ≠ 0 := fun e => h (.inl e)
      exact ⟨by omega, fun _ => h2 (by omega)⟩
theorem rgg_last (pl : Nat → Int) (i : Nat) : rgg pl (i + 1) (rn pl (i + 1) - 1) = pl i := upd_same _ _ _
theorem rgg_one {pl : Nat → Int} {P : Int → Prop} : ∀ i, (∀ j, j < i → P (pl j)) → ∀ j, j < rn pl i → P (rgg pl i j)
  | 0, _, j, h => absurd h (Nat.not_lt_zero _)
  | i + 1, hp, j, h => by
    by_cases e : j = rn pl (i + 1) - 1
    · subst e; rw [rgg_last]; exact hp i (by omega)
    · rw [rgg, upd_other _ _ e]
      refine rgg_one i (fun j hj => hp j (by omega)) j ?_
      by_cases hn : newR pl i
      · rw [rn_new hn] at h e; omega
      · rw [rn_old hn] at h; exact h
theorem upd_upd (f : Nat → Int) (k : Nat) (u v : Int) : upd (upd f k u) k v = upd f k v := by
  funext j
  unfold upd
  split <;> rfl
theorem upd_self (f : Nat → Int) (k : Nat) : upd f k (f k) = f := by
  funext j
  unfold upd
  split
  · rename_i h; rw [h]
  · rfl
theorem sumN_congr {x y : Nat → Int} : ∀ k, (∀ j, j < k → x j = y j) → sumN x k = sumN y k
  | 0, _ => rfl
  | k + 1, h => by
    show sumN x k + x k = sumN y k + y k
    rw [sumN_congr k (fun j hj => h j (by omega)), h k (by omega)]
theorem sumN_nonneg {y : Nat → Int} : ∀ k, (∀ j, j < k → 0 ≤ y j) → 0 ≤ sumN y k
  | 0, _ => by simp [sumN]
  | k + 1, h => by
    have := sumN_nonneg (y := y) k (fun j hj => h j (by omega))
    have := h k (by omega)
    show 0 ≤ sumN y k + y k
    omega
theorem sumN_mono {y : Nat → Int} {i : Nat} : ∀ k, i ≤ k → (∀ j, j < k → 0 ≤ y j) → sumN y i ≤ sumN y k
  | 0, h, _ => by obtain rfl : i = 0 := by omega
                  omega
  | k + 1, h, hy => by
    by_cases e : i = k + 1
    · subst e; exact Int.le_refl _
    · have := sumN_mono (y := y) (i := i) k (by omega) (fun j hj => hy j (by omega))
      have := hy k (by omega)
      show sumN y i ≤ sumN y k + y k
      omega
theorem sumN_le {y : Nat → Int} {M : Int} : ∀ k, (∀ j, j < k → 0 ≤ y j ∧ y j ≤ M) → 0 ≤ sumN y k ∧ sumN y k ≤ M * k
  | 0, _ => by simp [sumN]
  | k + 1, h => by
    have := sumN_le (y := y) (M := M) k (fun j hj => h j (by omega))
    have := h k (by omega)
    have e : M * ((k + 1 : Nat) : Int) = M * k + M := by rw [Int.natCast_add, Int.mul_add]; simp
    show 0 ≤ sumN y k + y k ∧ sumN y k + y k ≤ M * ((k + 1 : Nat) : Int)
    rw [e]
    omega
theorem rwk_bd {d pl : Nat → Int} : ∀ i, (∀ j, j < i → 0 ≤ d j) → ∀ j, j < rn pl i → 0 ≤ rwk d pl i j ∧ rwk d pl i j ≤ sumN d i
  | 0, _, j, h => absurd h (Nat.not_lt_zero _)
  | i + 1, hd, j, h => by
    have ih := rwk_bd (d := d) (pl := pl) i (fun j hj => hd j (by omega))
    have h0 := sumN_nonneg (y := d) i (fun j hj => hd j (by omega))
    have hi := hd i (by omega)
    have hs : sumN d (i + 1) = sumN d i + d i := rfl
    by_cases hn : newR pl i
    · rw [rn_new hn] at h
      simp only [rwk, if_pos hn]
      by_cases e : j = rn pl i
      · subst e; rw [upd_same]; omega
      · rw [upd_other _ _ e]
        have := ih j (by omega)
        omega
    · rw [rn_old hn] at h
      simp only [rwk, if_neg hn]
      by_cases e : j = rn pl i - 1
      · subst e; rw [upd_same]
        have := ih (rn pl i - 1) h
        omega
      · rw [upd_other _ _ e]
        have := ih j h
        omega
/-- days and cost of one run. -/
def dayR (g : Gs) (q x : Int) : Int := daysL (g.q q.toNat) (g.s q.toNat) (g.t q.toNat) x
def costR (g : Gs) (q x : Int) : Int := dayR g q x * g.u q.toNat
/-- days and cost of the runs of the first i rows. -/
def dayS (g : Gs) (d pl : Nat → Int) (i : Nat) : Int := sumN (fun j => dayR g (rgg pl i j) (rwk d pl i j)) (rn pl i)
def costS (g : Gs) (d pl : Nat → Int) (i : Nat) : Int := sumN (fun j => costR g (rgg pl i j) (rwk d pl i j)) (rn pl i)
theorem dayR_bd {g : Gs} {m : Nat} (hG : AllG m g) {q x : Int} (hq : 0 ≤ q ∧ q < m) (hx : 0 ≤ x ∧ x ≤ 2000) : 0 ≤ dayR g q x ∧ dayR g q x ≤ 20000 := by
  obtain ⟨h1, h2, h3, h4, h5⟩ := hG q.toNat (by omega)
  exact daysL_bd (by omega) (by omega) (by omega) hx
theorem costR_bd {g : Gs} {m : Nat} (hG : AllG m g) {q x : Int} (hq : 0 ≤ q ∧ q < m) (hx : 0 ≤ x ∧ x ≤ 2000) : 0 ≤ costR g q x ∧ costR g q x ≤ 20000000 := by
  obtain ⟨h1, h2, h3, h4, h5⟩ := hG q.toNat (by omega)
  have hd := dayR_bd hG hq hx
  unfold costR
  refine ⟨Int.mul_nonneg hd.1 (by omega), ?_⟩
  have a := Int.mul_le_mul hd.2 h5.2 (by omega) (by omega)
  omega
/-- a run that goes from i0 on, at i. -/
def InRun (d pl : Nat → Int) (i0 i : Nat) (x : Int) : Prop :=
  (i = i0 ∧ x = 0) ∨ (i0 < i ∧ pl (i - 1) = pl i0 ∧ rn pl i = rn pl i0 + 1 ∧ rgg pl i = upd (rgg pl i0) (rn pl i0) (pl i0) ∧ rwk d pl i = upd (rwk d pl i0) (rn pl i0) x)
theorem InRun.step {d pl : Nat → Int} {i0 i : Nat} {x : Int} (h : InRun d pl i0 i x) (hn : newR pl i0) (he : pl i = pl i0) : InRun d pl i0 (i + 1) (x + d i) := by
  rcases h with ⟨rfl, rfl⟩ | ⟨h1, h2, h3, h4, h5⟩
  · refine .inr ⟨by omega, by simp, rn_new hn, ?_, ?_⟩
    · show upd (rgg pl i) (rn pl (i + 1) - 1) (pl i) = _
      rw [rn_new hn]; simp
    · simp only [rwk, if_pos hn, Int.zero_add]
  · have ho : ¬ newR pl i := fun h => by
      rcases h with h | h
      · omega
      · exact h (by rw [he, h2])
    refine .inr ⟨by omega, by simpa using he, by rw [rn_old ho, h3], ?_, ?_⟩
    · show upd (rgg pl i) (rn pl (i + 1) - 1) (pl i) = _
      rw [rn_old ho, h3, h4, he]
      simp only [Nat.add_sub_cancel]
      exact upd_upd _ _ _ _
    · simp only [rwk, if_neg ho, h3, h5, Nat.add_sub_cancel, upd_same]
      exact upd_upd _ _ _ _
theorem InRun.days {g : Gs} {d pl : Nat → Int} {i0 i : Nat} {x : Int} (h : InRun d pl i0 i x) (hi : i0 < i) : dayS g d pl i = dayS g d pl i0 + dayR g (pl i0) x ∧ costS g d pl i = costS g d pl i0 + costR g (pl i0) x ∧ rn pl i = rn pl i0 + 1 := by
  rcases h with ⟨rfl, -⟩ | ⟨h1, h2, h3, h4, h5⟩
  · omega
  · refine ⟨?_, ?_, h3⟩
    · unfold dayS
      rw [h3, h4, h5]
      show sumN _ (rn pl i0) + _ = _
      simp only [upd_same]
      congr 1
      exact sumN_congr _ fun j hj => by rw [upd_other _ _ (by omega), upd_other _ _ (by omega)]
    · unfold costS
      rw [h3, h4, h5]
      show sumN _ (rn pl i0) + _ = _
      simp only [upd_same]
      congr 1
      exact sumN_congr _ fun j hj => by rw [upd_other _ _ (by omega), upd_other _ _ (by omega)]
/-- the work of a run that goes on is no more than all. -/
theorem InRun.bd {d pl : Nat → Int} {i0 i : Nat} {x : Int} (h : InRun d pl i0 i x) (hd : ∀ j, j < i → 0 ≤ d j) : 0 ≤ x ∧ x ≤ sumN d i := by
  rcases h with ⟨rfl, rfl⟩ | ⟨h1, h2, h3, h4, h5⟩
  · exact ⟨by omega, sumN_nonneg i hd⟩
  · have := rwk_bd (d := d) (pl := pl) i hd (rn pl i0) (by omega)
    rw [h5, upd_same] at this
    exact this
theorem sums_bd {g : Gs} {m n : Nat} {d pl : Nat → Int} (hG : AllG m g) (hP : ∀ j, j < n → 0 ≤ pl j ∧ pl j < m) (hd : ∀ j, j < n → 0 ≤ d j) (hs : sumN d n ≤ 2000) (i : Nat) (hi : i ≤ n) :
    (0 ≤ dayS g d pl i ∧ dayS g d pl i ≤ 20000 * rn pl i) ∧ (0 ≤ costS g d pl i ∧ costS g d pl i ≤ 20000000 * rn pl i) := by
  have h1 : ∀ j, j < rn pl i → 0 ≤ rgg pl i j ∧ rgg pl i j < m := rgg_one (P := fun q => 0 ≤ q ∧ q < m) i (fun j hj => hP j (by omega))
  have h2 := rwk_bd (d := d) (pl := pl) i (fun j hj => hd j (by omega))
  have h3 := sumN_mono (y := d) n hi hd
  exact ⟨sumN_le _ fun j hj => dayR_bd hG (h1 j hj) ⟨(h2 j hj).1, by have := (h2 j hj).2; omega⟩, sumN_le _ fun j hj => costR_bd hG (h1 j hj) ⟨(h2 j hj).1, by have := (h2 j hj).2; omega⟩⟩
end Go.Proofs.YtfpoikeibjojgaaDoor
