/-
  The numbers of gangs and mortar: days of work, days of the calendar, parts of a mix. No condition.
-/
import Derived.WalkKit
namespace Go.Proofs.YtfpoikeibjojgaaDoor
open Go Go.RowKit
set_option linter.unusedVariables false
/-- days of work: work divided by pace, rounded up. -/
def upD (w p : Int) : Int := (w + p - 1) / p
theorem upD_bd {w p : Int} (hw : 0 ≤ w) (hp : 1 ≤ p) : 0 ≤ upD w p ∧ upD w p ≤ w := by
  unfold upD
  refine ⟨Int.ediv_nonneg (by omega) (by omega), ?_⟩
  have h : (w + p - 1) / p < w + 1 := Int.ediv_lt_of_lt_mul (by omega) (by
    have : w * 1 ≤ w * p := Int.mul_le_mul_of_nonneg_left hp hw
    rw [Int.add_mul]; omega)
  omega
/-- how many days a gang takes. -/
def daysL (p k r w : Int) : Int := if upD w p = 0 then 0 else upD w p + (upD w p - 1) / k * r
theorem rests_bd {d k r : Int} (hd : 0 ≤ d ∧ d ≤ 2000) (hk : 1 ≤ k) (hr : 0 ≤ r ∧ r ≤ 9) : 0 ≤ d / k ∧ d / k ≤ 2000 ∧ 0 ≤ d / k * r ∧ d / k * r ≤ 18000 := by
  have h1 : 0 ≤ d / k := Int.ediv_nonneg hd.1 (by omega)
  have h2 : d / k ≤ d := Int.ediv_le_self _ hd.1
  have h3 : d / k * r ≤ 2000 * 9 := Int.mul_le_mul (by omega) hr.2 hr.1 (by omega)
  have h4 : 0 ≤ d / k * r := Int.mul_nonneg h1 hr.1
  omega
theorem daysL_bd {p k r w : Int} (hp : 1 ≤ p) (hk : 1 ≤ k) (hr : 0 ≤ r ∧ r ≤ 9) (hw : 0 ≤ w ∧ w ≤ 2000) : 0 ≤ daysL p k r w ∧ daysL p k r w ≤ 20000 := by
  have h := upD_bd hw.1 hp
  unfold daysL
  split
  · omega
  · have := rests_bd (d := upD w p - 1) (k := k) (r := r) (by omega) hk hr
    omega
theorem daysL_max {p k r w : Int} (hp : 1 ≤ p) (hk : 1 ≤ k) (hw : 0 ≤ w) : daysL p k r w = upD w p + (max (upD w p - 1) 0) / k * r := by
  have h := upD_bd hw hp
  unfold daysL
  split
  · rename_i e
    rw [e, Int.max_eq_right (by omega)]
    simp
  · rw [Int.max_eq_left (by omega)]
/-- days of the calendar: passed ones, and those of work that are left. -/
def calL (s : Int) : Nat → Int → Int → Int
  | 0, n, _ => n
  | f + 1, n, l => if l ≤ 0 then n else if (s + n) % 7 = 6 then calL s f (n + 1) l else calL s f (n + 1) (l - 1)
/-- the first greatest one of three. -/
def bst (a b c : Int) : Nat := if a < b then (if b < c then 2 else 1) else (if a < c then 2 else 0)
def upd (f : Nat → Int) (k : Nat) (v : Int) : Nat → Int := fun j => if j = k then v else f j
theorem upd_same (f : Nat → Int) (k : Nat) (v : Int) : upd f k v k = v := if_pos rfl
theorem upd_other (f : Nat → Int) {k j : Nat} (v : Int) (h : j ≠ k) : upd f k v j = f j := if_neg h
/-- what lacks is added to those with the greatest rests, which get a mark. -/
def fillZ (z : Int) : Nat → (Nat → Int) → (Nat → Int) → Nat → Int
  | 0, o, _ => o
  | l + 1, o, r => fillZ z l (upd o (bst (r 0) (r 1) (r 2)) (o (bst (r 0) (r 1) (r 2)) + 1)) (upd r (bst (r 0) (r 1) (r 2)) z)
theorem bst_lt (a b c : Int) : bst a b c < 3 := by unfold bst; split <;> split <;> decide
theorem bst_le (r : Nat → Int) {j : Nat} (h : j < 3) : r j ≤ r (bst (r 0) (r 1) (r 2)) := by
  obtain rfl | rfl | rfl : j = 0 ∨ j = 1 ∨ j = 2 := by omega
  all_goals (unfold bst; split <;> split <;> omega)
theorem bst_first (r : Nat → Int) {j : Nat} (h : j < bst (r 0) (r 1) (r 2)) : r j < r (bst (r 0) (r 1) (r 2)) := by
  have h3 := bst_lt (r 0) (r 1) (r 2)
  obtain rfl | rfl : j = 0 ∨ j = 1 := by omega
  all_goals (revert h; unfold bst; split <;> split <;> (intro h; first | omega | (exact absurd h (by decide))))
theorem bst_two {r : Nat → Int} (h : ∀ j, j < 3 → 0 < r j) (b : Nat) (hb : b < 3) : bst (upd r b 0 0) (upd r b 0 1) (upd r b 0 2) = bst (upd r b (-1) 0) (upd r b (-1) 1) (upd r b (-1) 2) := by
  have h0 := h 0 (by decide)
  have h1 := h 1 (by decide)
  have h2 := h 2 (by decide)
  obtain rfl | rfl | rfl : b = 0 ∨ b = 1 ∨ b = 2 := by omega
  all_goals (simp only [upd]; unfold bst; simp; repeat' (first | rfl | omega | split))
/-- both marks serve where no more than two lack. -/
theorem fillZ_eq (o r : Nat → Int) (l : Nat) (hl : l ≤ 2) (h : l = 2 → ∀ j, j < 3 → 0 < r j) : fillZ 0 l o r = fillZ (-1) l o r := by
  obtain rfl | rfl | rfl : l = 0 ∨ l = 1 ∨ l = 2 := by omega
  · rfl
  · rfl
  · simp only [fillZ]
    rw [bst_two (h rfl) _ (bst_lt _ _ _)]
/-- the parts of a mix, rounded down, and their rests. -/
def qM (n s a : Int) : Int := n * a / s
def rM (n s a : Int) : Int := n * a % s
def sumM (m : Nat → Int) : Int := m 0 + m 1 + m 2
def qL (m : Nat → Int) (n : Int) (k : Nat) : Int := qM n (sumM m) (m k)
def rL (m : Nat → Int) (n : Int) (k : Nat) : Int := rM n (sumM m) (m k)
def lackM (m : Nat → Int) (n : Int) : Int := n - qL m n 0 - qL m n 1 - qL m n 2
/-- is a mix valid? -/
def MixOk (m : Nat → Int) : Prop := (∀ j, j < 3 → 0 ≤ m j ∧ m j ≤ 100) ∧ 0 < sumM m
theorem MixOk.bds {m : Nat → Int} (h : MixOk m) : (0 ≤ m 0 ∧ m 0 ≤ 100) ∧ (0 ≤ m 1 ∧ m 1 ≤ 100) ∧ (0 ≤ m 2 ∧ m 2 ≤ 100) ∧ 1 ≤ sumM m ∧ sumM m ≤ 300 := by
  have h0 := h.1 0 (by decide)
  have h1 := h.1 1 (by decide)
  have h2 := h.1 2 (by decide)
  have h3 := h.2
  have : sumM m = m 0 + m 1 + m 2 := rfl
  omega
theorem mix_bd {m : Nat → Int} {n : Int} (h : MixOk m) (hn : 0 ≤ n ∧ n ≤ 5000) {k : Nat} (hk : k < 3) :
    (0 ≤ n * m k ∧ n * m k ≤ 500000) ∧ (0 ≤ qL m n k ∧ qL m n k ≤ 5000) ∧ (0 ≤ rL m n k ∧ rL m n k < sumM m) := by
  obtain ⟨h0, h1, h2, h3, h4⟩ := h.bds
  have hs : sumM m = m 0 + m 1 + m 2 := rfl
  have hm := h.1 k hk
  have hms : m k ≤ sumM m := by
    obtain rfl | rfl | rfl : k = 0 ∨ k = 1 ∨ k = 2 := by omega
    all_goals omega
  have hp : 0 ≤ n * m k := Int.mul_nonneg hn.1 hm.1
  have hp2 : n * m k ≤ 5000 * 100 := Int.mul_le_mul hn.2 hm.2 hm.1 (by omega)
  refine ⟨⟨hp, by omega⟩, ⟨Int.ediv_nonneg hp (by omega), ?_⟩, ⟨Int.emod_nonneg _ (by omega), Int.emod_lt_of_pos _ (by omega)⟩⟩
  have : n * m k / sumM m ≤ n := by
    refine Int.ediv_le_of_le_mul (by omega) ?_
    exact Int.mul_le_mul_of_nonneg_left hms hn.1
  exact Int.le_trans this hn.2
theorem lackM_eq {m : Nat → Int} {n : Int} : sumM m * lackM m n = rL m n 0 + rL m n 1 + rL m n 2 := by
  have e (k : Nat) : sumM m * qL m n k + rL m n k = n * m k := Int.mul_ediv_add_emod _ _
  have e0 := e 0
  have e1 := e 1
  have e2 := e 2
  have hs : sumM m * n = n * m 0 + n * m 1 + n * m 2 := by
    rw [Int.mul_comm, show sumM m = m 0 + m 1 + m 2 from rfl, Int.mul_add, Int.mul_add]
  unfold lackM
  rw [Int.mul_sub, Int.mul_sub, Int.mul_sub, hs]
  omega
theorem lackM_bd {m : Nat → Int} {n : Int} (h : MixOk m) (hn : 0 ≤ n ∧ n ≤ 5000) : 0 ≤ lackM m n ∧ lackM m n ≤ 2 ∧ (lackM m n = 2 → ∀ j, j < 3 → 0 < rL m n j) := by
  obtain ⟨-, -, r0⟩ := mix_bd h hn (k := 0) (by decide)
  obtain ⟨-, -, r1⟩ := mix_bd h hn (k := 1) (by decide)
  obtain ⟨-, -, r2⟩ := mix_bd h hn (k := 2) (by decide)
  have e := lackM_eq (m := m) (n := n)
  have hs := h.2
  generalize sumM m = s at *
  generalize lackM m n = l at *
  have l0 : 0 ≤ l := by
    refine Int.not_lt.1 fun hl => ?_
    have : s * l < 0 := Int.mul_neg_of_pos_of_neg hs hl
    omega
  have l2 : l < 3 := by
    refine Int.not_le.1 fun hl => ?_
    have : s * 3 ≤ s * l := Int.mul_le_mul_of_nonneg_left hl (by omega)
    omega
  refine ⟨l0, by omega, ?_⟩
  rintro rfl j hj
  obtain rfl | rfl | rfl : j = 0 ∨ j = 1 ∨ j = 2 := by omega
  all_goals omega
/-- how much of each part an amount needs. -/
def needM (m : Nat → Int) (n : Int) : Nat → Int := fillZ (-1) (lackM m n).toNat (qL m n) (rL m n)
theorem needM_zero {m : Nat → Int} {n : Int} (h : MixOk m) (hn : 0 ≤ n ∧ n ≤ 5000) : fillZ 0 (lackM m n).toNat (qL m n) (rL m n) = needM m n := by
  obtain ⟨h0, h1, h2⟩ := lackM_bd h hn
  exact fillZ_eq _ _ _ (by omega) (fun e => h2 (by omega))
theorem fillZ_bd (z : Int) : ∀ (l : Nat) (o r : Nat → Int) (M : Int), (∀ j, j < 3 → 0 ≤ o j ∧ o j ≤ M) → ∀ j, j < 3 → 0 ≤ fillZ z l o r j ∧ fillZ z l o r j ≤ M + l
  | 0, o, r, M, h => fun j hj => by have := h j hj; simp [fillZ]; exact this
  | l + 1, o, r, M, h => fun j hj => by
    have := fillZ_bd z l (upd o (bst (r 0) (r 1) (r 2)) (o (bst (r 0) (r 1) (r 2)) + 1)) (upd r (bst (r 0) (r 1) (r 2)) z) (M + 1) (fun i hi => by
      unfold upd
      split
      · have := h (bst (r 0) (r 1) (r 2)) (bst_lt _ _ _); omega
      · have := h i hi; omega) j hj
    show 0 ≤ fillZ z l _ _ j ∧ fillZ z l _ _ j ≤ _
    omega
theorem needM_bd {m : Nat → Int} {n : Int} (h : MixOk m) (hn : 0 ≤ n ∧ n ≤ 5000) {j : Nat} (hj : j < 3) : 0 ≤ needM m n j ∧ needM m n j ≤ 5002 := by
  obtain ⟨h0, h1, h2⟩ := lackM_bd h hn
  have := fillZ_bd (-1) (lackM m n).toNat (qL m n) (rL m n) 5000 (fun j hj => (mix_bd h hn hj).2.1) j hj
  unfold needM
  omega
theorem needM_nil {m : Nat → Int} (j : Nat) : needM m 0 j = 0 := by
  have hq (k : Nat) : qL m 0 k = 0 := by unfold qL qM; simp
  have hl : lackM m 0 = 0 := by unfold lackM; rw [hq, hq, hq]; rfl
  unfold needM
  rw [hl]
  exact hq j
/-- is a stock enough for an amount? -/
def Enough (m st : Nat → Int) (n : Int) : Prop := ∀ j, j < 3 → needM m n j ≤ st j
/-- the greatest amount for which a stock is enough. -/
def MostAt (m st : Nat → Int) (z : Int) : Prop := (0 ≤ z ∧ z ≤ 5000) ∧ Enough m st z ∧ ∀ y, z < y → y ≤ 5000 → ¬ Enough m st y
theorem mostAt_ex (m st : Nat → Int) (h : ∀ j, j < 3 → 0 ≤ st j) : ∃ z, MostAt m st z := by
  have key : ∀ k : Nat, k ≤ 5000 → (∀ y : Int, (k : Int) < y → y ≤ 5000 → ¬ Enough m st y) → ∃ z, MostAt m st z := by
    intro k
    induction k with
    | zero => exact fun _ hy => ⟨0, by omega, fun j hj => by rw [needM_nil]; exact h j hj, hy⟩
    | succ k ih =>
      intro hk hy
      by_cases he : Enough m st ((k + 1 : Nat) : Int)
      · exact ⟨_, ⟨by omega, by omega⟩, he, hy⟩
      · refine ih (by omega) fun y h1 h2 => ?_
        by_cases e : y = ((k + 1 : Nat) : Int)
        · rw [e]; exact he
        · exact hy y (by omega) h2
  exact key 5000 (by omega) (fun y h1 h2 => absurd h1 (by omega))
theorem MostAt.one {m st : Nat → Int} {a b : Int} (h : MostAt m st a) (k : MostAt m st b) : a = b := by
  by_cases h1 : a < b
  · exact absurd k.2.1 (h.2.2 b h1 k.1.2)
  · by_cases h2 : b < a
    · exact absurd h.2.1 (k.2.2 a h2 h.1.2)
    · omega
end Go.Proofs.YtfpoikeibjojgaaDoor
