/-
  The numbers of WaysToFill: counted from the empty row up, and from the whole room down, they are the same. No condition.
-/
import Derived.WalkKit
namespace Go.Proofs.Ytjeccdmhpbaabaa
open Go Go.RowKit
/-- a sum that wraps. -/
def wsum (f : Nat → Int) : Nat → Int
  | 0 => 0
  | k + 1 => wrap64 (wsum f k + f k)
theorem wsum_congr {f g : Nat → Int} : ∀ n, (∀ k, k < n → f k = g k) → wsum f n = wsum g n
  | 0, _ => rfl
  | n + 1, h => by
    rw [wsum, wsum, wsum_congr n (fun k hk => h k (by omega)), h n (by omega)]
/-- how many counts of a sort fit a room, 0 among them. -/
def fitN (by' cnt a : Nat) : Nat := min cnt (a / by') + 1
/-- one sort more: from the empty row up. -/
def wUp (by' cnt : Nat) (f : Nat → Int) (a : Nat) : Int := wsum (fun k => f (a - k * by')) (fitN by' cnt a)
/-- one sort more: from the whole room down. -/
def wIn (by' : Nat) (v : Int) (m : Nat) : Nat → (Nat → Int) → Nat → Int
  | 0, f => f
  | c + 1, f => fun j => if j = m - c * by' then wrap64 (wIn by' v m c f j + v) else wIn by' v m c f j
def wDown (by' cnt : Nat) (V : Nat → Int) : Nat → Nat → Int
  | 0 => fun _ => 0
  | m + 1 => wIn by' (V m) m (fitN by' cnt m) (wDown by' cnt V m)

theorem wIn_eq (by' : Nat) (hb : 0 < by') (v : Int) (m : Nat) (f : Nat → Int) (j : Nat) : ∀ c, (∀ k, k < c → k * by' ≤ m) → wIn by' v m c f j = if ∃ k, k < c ∧ j + k * by' = m then wrap64 (f j + v) else f j
  | 0, _ => by rw [if_neg (by rintro ⟨k, h, _⟩; omega)]; rfl
  | c + 1, h => by
    have ih := wIn_eq by' hb v m f j c (fun k hk => h k (by omega))
    have hc := h c (by omega)
    show (if j = m - c * by' then wrap64 (wIn by' v m c f j + v) else wIn by' v m c f j) = _
    by_cases e : j = m - c * by'
    · have hno : ¬ ∃ k, k < c ∧ j + k * by' = m := by
        rintro ⟨k, hk, hj⟩
        have : k * by' < c * by' := Nat.mul_lt_mul_of_pos_right hk hb
        omega
      rw [if_pos e, ih, if_neg hno, if_pos ⟨c, by omega, by omega⟩]
    · rw [if_neg e, ih]
      by_cases hx : ∃ k, k < c ∧ j + k * by' = m
      · rw [if_pos hx, if_pos (by obtain ⟨k, h1, h2⟩ := hx; exact ⟨k, by omega, h2⟩)]
      · rw [if_neg hx, if_neg]
        rintro ⟨k, h1, h2⟩
        by_cases ek : k = c
        · subst ek; omega
        · exact hx ⟨k, by omega, h2⟩

theorem fitN_le {by' cnt a k : Nat} (hb : 0 < by') (h : k < fitN by' cnt a) : k ≤ cnt ∧ k * by' ≤ a := by
  unfold fitN at h
  have : k ≤ a / by' := by omega
  exact ⟨by omega, (Nat.le_div_iff_mul_le hb).1 this⟩
theorem lt_fitN {by' cnt a k : Nat} (hb : 0 < by') (h : k ≤ cnt) (h2 : k * by' ≤ a) : k < fitN by' cnt a := by
  unfold fitN
  have := (Nat.le_div_iff_mul_le hb).2 h2
  omega
/-- how many of the sum's parts a place has below a room. -/
def partsN (by' cnt j m : Nat) : Nat := if m ≤ j then 0 else fitN by' cnt (m - 1 - j)
theorem partsN_hit {by' cnt j m k : Nat} (hb : 0 < by') (hk : k ≤ cnt) (h : j + k * by' = m) : partsN by' cnt j m = k ∧ partsN by' cnt j (m + 1) = k + 1 := by
  subst h
  have e2 : partsN by' cnt j (j + k * by' + 1) = k + 1 := by
    unfold partsN fitN
    rw [if_neg (by omega), show j + k * by' + 1 - 1 - j = k * by' by omega, Nat.mul_div_cancel _ hb]
    omega
  refine ⟨?_, e2⟩
  unfold partsN fitN
  cases k with
  | zero => rw [if_pos (by omega)]
  | succ q =>
    have hq : 0 < (q + 1) * by' := Nat.mul_pos (by omega) hb
    rw [if_neg (by omega), show j + (q + 1) * by' - 1 - j = (q + 1) * by' - 1 by omega]
    have : ((q + 1) * by' - 1) / by' = q := by
      apply Nat.div_eq_of_lt_le
      · rw [Nat.succ_mul] at hq ⊢; omega
      · rw [Nat.succ_mul q] at *; omega
    rw [this]; omega
theorem partsN_miss {by' cnt j m : Nat} (hb : 0 < by') (h : ¬ ∃ k, k ≤ cnt ∧ j + k * by' = m) : partsN by' cnt j (m + 1) = partsN by' cnt j m := by
  unfold partsN
  by_cases hm : m < j
  · rw [if_pos (by omega), if_pos (by omega)]
  by_cases he : m = j
  · exact absurd ⟨0, by omega, by omega⟩ h
  rw [if_neg (by omega), if_neg (by omega)]
  obtain ⟨d, rfl⟩ : ∃ d, m = j + d + 1 := ⟨m - j - 1, by omega⟩
  rw [show j + d + 1 + 1 - 1 - j = d + 1 by omega, show j + d + 1 - 1 - j = d by omega]
  unfold fitN
  by_cases hd : by' ∣ d + 1
  · obtain ⟨q, hq⟩ := hd
    have hc : cnt < q := by
      refine Nat.lt_of_not_le fun hle => h ⟨q, hle, ?_⟩
      rw [Nat.mul_comm]; omega
    have h1 : q ≤ (d + 1) / by' := (Nat.le_div_iff_mul_le hb).2 (by rw [Nat.mul_comm]; omega)
    have h2 : q - 1 ≤ d / by' := (Nat.le_div_iff_mul_le hb).2 (by
      obtain ⟨p, rfl⟩ : ∃ p, q = p + 1 := ⟨q - 1, by omega⟩
      rw [Nat.mul_succ] at hq
      rw [Nat.add_sub_cancel, Nat.mul_comm]
      omega)
    omega
  · rw [Nat.succ_div_of_not_dvd hd]
theorem wDown_eq (by' cnt : Nat) (hb : 0 < by') (V : Nat → Int) (j : Nat) : ∀ m, wDown by' cnt V m j = wsum (fun k => V (j + k * by')) (partsN by' cnt j m)
  | 0 => by
    have : partsN by' cnt j 0 = 0 := if_pos (Nat.zero_le _)
    rw [this]; rfl
  | m + 1 => by
    have ih := wDown_eq by' cnt hb V j m
    show wIn by' (V m) m (fitN by' cnt m) (wDown by' cnt V m) j = _
    rw [wIn_eq by' hb (V m) m _ j _ (fun k hk => (fitN_le hb hk).2), ih]
    by_cases hx : ∃ k, k < fitN by' cnt m ∧ j + k * by' = m
    · obtain ⟨k, h1, h2⟩ := id hx
      obtain ⟨p1, p2⟩ := partsN_hit hb (fitN_le hb h1).1 h2
      rw [if_pos hx, p1, p2, wsum, h2]
    · rw [if_neg hx, partsN_miss hb]
      rintro ⟨k, h1, h2⟩
      exact hx ⟨k, lt_fitN hb h1 (by omega), h2⟩
/-- both ways count the same. -/
theorem wDown_up (by' cnt most : Nat) (hb : 0 < by') (V W : Nat → Int) (hVW : ∀ j, j ≤ most → V j = W (most - j)) (j : Nat) (hj : j ≤ most) : wDown by' cnt V (most + 1) j = wUp by' cnt W (most - j) := by
  rw [wDown_eq by' cnt hb V j, partsN, if_neg (by omega), show most + 1 - 1 - j = most - j by omega]
  unfold wUp
  refine wsum_congr _ fun k hk => ?_
  have := (fitN_le hb hk).2
  rw [hVW _ (by omega)]
  congr 1
  omega
end Go.Proofs.Ytjeccdmhpbaabaa
