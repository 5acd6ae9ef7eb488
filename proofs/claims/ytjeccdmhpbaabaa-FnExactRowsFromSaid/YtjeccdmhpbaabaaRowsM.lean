/-
  The numbers of RowsFrom: what is left of each sort, row by row. No condition.
-/
import Derived.Test.YtjeccdmhpbaabaaRows
import Derived.Test.YtjeccdmhpbaabaaFillI
namespace Go.Proofs.Ytjeccdmhpbaabaa
open Go Go.RowKit
set_option linter.unusedVariables false
set_option linter.unusedSimpArgs false

/-- what is left of each sort behind m rows. -/
noncomputable def dN (n : Nat) (c : Nat → Int) (k : Int) (L : Nat) (d : Nat → Int) : Nat → Nat → Int
  | 0 => d
  | m + 1 => fun j => if j < n then dN n c k L d m j - (kN (bF n c k) (qF n (dN n c k L d m)) n L j : Int) else dN n c k L d m j
def sumN (e : Nat → Int) : Nat → Nat
  | 0 => 0
  | n + 1 => sumN e n + (e n).toNat
theorem sumN_le (e f : Nat → Int) : ∀ n, (∀ j, j < n → 0 ≤ f j ∧ f j ≤ e j) → sumN f n ≤ sumN e n
  | 0, _ => Nat.le_refl _
  | n + 1, h => by
    have := sumN_le e f n (fun j hj => h j (by omega))
    have := h n (by omega)
    simp only [sumN]
    omega
theorem sumN_lt (e f : Nat → Int) : ∀ n, (∀ j, j < n → 0 ≤ f j ∧ f j ≤ e j) → (∃ j, j < n ∧ f j < e j) → sumN f n < sumN e n
  | 0, _, ⟨j, h, _⟩ => absurd h (by omega)
  | n + 1, h, ⟨j, hj, hlt⟩ => by
    have hn := h n (by omega)
    simp only [sumN]
    by_cases e1 : j = n
    · subst e1
      have := sumN_le e f j (fun i hi => h i (by omega))
      omega
    · have := sumN_lt e f n (fun i hi => h i (by omega)) ⟨j, by omega, hlt⟩
      omega
theorem sumN_60 (e : Nat → Int) : ∀ n, (∀ j, j < n → e j ≤ 60) → sumN e n ≤ 60 * n
  | 0, _ => Nat.le_refl _
  | n + 1, h => by
    have := sumN_60 e n (fun j hj => h j (by omega))
    have := h n (by omega)
    simp only [sumN]
    omega
section
variable {n : Nat} {c : Nat → Int} {k : Int} {L : Nat} {d : Nat → Int}
/-- the fewest setts of the row behind m rows; less than 0 where there is none. -/
noncomputable def tN (n : Nat) (c : Nat → Int) (k : Int) (L : Nat) (d : Nat → Int) (m : Nat) : Int := TT (bF n c k) (qF n (dN n c k L d m)) n 0 L
theorem row_step (hk : JointOk k) (hL : 1 ≤ L) {m : Nat} (hE : EOk n c (dN n c k L d m)) (ht : 0 ≤ tN n c k L d m) :
    EOk n c (dN n c k L d (m + 1)) ∧ sumN (dN n c k L d (m + 1)) n < sumN (dN n c k L d m) n := by
  have hq := qF_60 hE
  have hks : ∀ i, i < n → 0 ≤ TT (bF n c k) (qF n (dN n c k L d m)) n i (aN (bF n c k) (qF n (dN n c k L d m)) n L i) := fun i hi => (aN_ok _ _ n L ht i (by omega)).1
  have hle : ∀ j, j < n → (kN (bF n c k) (qF n (dN n c k L d m)) n L j : Int) ≤ dN n c k L d m j := fun j hj => by
    have h1 := (kOf_spec _ _ n j _ hj (hks j hj)).1
    have h2 := (fitN_le (bF_one hE hk j) h1).1
    have h3 := qF_eq hE hj
    rw [h3]
    exact Int.ofNat_le.2 h2
  have hb : ∀ j, j < n → 0 ≤ dN n c k L d (m + 1) j ∧ dN n c k L d (m + 1) j ≤ dN n c k L d m j := fun j hj => by
    have := hle j hj
    show 0 ≤ (if j < n then _ else _) ∧ (if j < n then _ else _) ≤ _
    rw [if_pos hj]
    omega
  refine ⟨⟨hE.1, fun j hj => ⟨(hE.2 j hj).1, ?_⟩⟩, sumN_lt _ _ n hb ?_⟩
  · have := hb j hj
    have := (hE.2 j hj).2
    omega
  · by_cases hx : ∃ j, j < n ∧ 0 < kN (bF n c k) (qF n (dN n c k L d m)) n L j
    · obtain ⟨j, hj, hp⟩ := hx
      refine ⟨j, hj, ?_⟩
      show (if j < n then _ else _) < _
      rw [if_pos hj]
      omega
    · have hz : ∀ j, j < n → kN (bF n c k) (qF n (dN n c k L d m)) n L j = 0 := fun j hj => Nat.eq_zero_of_not_pos fun h => hx ⟨j, hj, h⟩
      have ha : ∀ i, i ≤ n → aN (bF n c k) (qF n (dN n c k L d m)) n L i = L := by
        intro i
        induction i with
        | zero => intro _; rfl
        | succ i ih =>
          intro hi
          have h0 := hz i (by omega)
          show aN _ _ n L i - kN _ _ n L i * _ = L
          rw [h0, ih (by omega)]
          omega
      have h := (aN_ok _ _ n L ht n (Nat.le_refl _)).1
      rw [ha n (Nat.le_refl _), TT_end, if_neg (by omega)] at h
      omega
def goodR (n : Nat) (c : Nat → Int) (k : Int) (L : Nat) (d : Nat → Int) (m : Nat) : Prop := (∀ j, j < m → 0 ≤ tN n c k L d j) ∧ tN n c k L d m < 0
theorem goodR_one {m m' : Nat} (h : goodR n c k L d m) (h' : goodR n c k L d m') : m = m' := by
  rcases Nat.lt_trichotomy m m' with hlt | e | hlt
  · have := h'.1 m hlt; have := h.2; omega
  · exact e
  · have := h.1 m' hlt; have := h'.2; omega
theorem rows_inv (hk : JointOk k) (hL : 1 ≤ L) (hE : EOk n c d) : ∀ m, (∀ j, j < m → 0 ≤ tN n c k L d j) → EOk n c (dN n c k L d m) ∧ sumN (dN n c k L d m) n + m ≤ sumN d n
  | 0, _ => ⟨hE, Nat.le_refl _⟩
  | m + 1, h => by
    have ih := rows_inv hk hL hE m (fun j hj => h j (by omega))
    have := row_step hk hL ih.1 (h m (by omega))
    exact ⟨this.1, by omega⟩
theorem rows_360 (hk : JointOk k) (hL : 1 ≤ L) (hE : EOk n c d) {m : Nat} (h : ∀ j, j < m → 0 ≤ tN n c k L d j) : m ≤ 360 := by
  have h1 := (rows_inv hk hL hE m h).2
  have h2 := sumN_60 d n (fun j hj => (hE.2 j hj).2.2)
  have h3 := hE.1
  omega
theorem goodR_is (hk : JointOk k) (hL : 1 ≤ L) (hE : EOk n c d) : ∃ m, goodR n c k L d m := by
  by_cases hx : ∃ m, tN n c k L d m < 0
  · obtain ⟨m, hm⟩ := hx
    obtain ⟨p, _, h2, h3⟩ := least_of (p := fun m => tN n c k L d m < 0) m hm
    exact ⟨p, fun j hj => by have := h3 j hj; omega, h2⟩
  · have := rows_360 hk hL hE (m := 361) (fun j _ => by
      have : ¬ tN n c k L d j < 0 := fun h => hx ⟨j, h⟩
      omega)
    omega
end
end Go.Proofs.Ytjeccdmhpbaabaa
