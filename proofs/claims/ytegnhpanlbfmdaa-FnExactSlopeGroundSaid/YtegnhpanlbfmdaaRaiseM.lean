/-
  Heights raised.  Conditions stand at each.
-/
import Derived.Test.YtegnhpanlbfmdaaRows
import Derived.Test.YtegnhpanlbfmdaaBesM
import Derived.Test.YtegnhpanlbfmdaaGndV
import Derived.Test.YtegnhpanlbfmdaaRunS
import Derived.Test.YtegnhpanlbfmdaaCloneC
namespace Go.Proofs.Ytegnhpanlbfmdaa
open Go Go.ChangeShapes Go.WideShapes Go.ChangeAt Go.RowKit
set_option linter.unusedVariables false
set_option linter.unusedSimpArgs false
set_option maxRecDepth 100000
set_option maxHeartbeats 4000000

theorem OwnG.form2 {w : World} {base n : Nat} {v : Value} {c : Nat → Int} (h : OwnG w base v n c) : ∃ A cap, v = .slice A n cap ∧ ∀ g, A = some ⟨g, 0, none⟩ → base ≤ g ∧ g < w.heap.size := by
  rcases h.2 with ⟨rfl, h0⟩ | ⟨g, cap, cur, h1, h2, h3, h4⟩
  · exact ⟨none, 0, by rw [h0], fun g e => by cases e⟩
  · refine ⟨some ⟨g, 0, none⟩, cap, h1, fun g' e => ?_⟩
    injection e with e
    injection e with e
    subst e
    exact ⟨h2, (Array.getElem?_eq_some_iff.1 h3).1⟩
theorem OwnG.setNe {w : World} {base b i n cap : Nat} {A : Option Addr} {u : Value} {c : Nat → Int} (h : OwnG w base (.slice A n cap) n c) (hne : ∀ g, A = some ⟨g, 0, none⟩ → g ≠ b) : OwnG (w.setCell ⟨b, i, none⟩ u) base (.slice A n cap) n c := by
  refine ⟨h.1, h.2.imp id ?_⟩
  rintro ⟨g, cap, cur, h1, h2, h3, h4⟩
  refine ⟨g, cap, cur, h1, h2, (Below.heap_setCell w ⟨b, i, none⟩ u g ?_).trans h3, h4⟩
  injection h1 with h1
  exact hne g h1
/-- all points raised. -/
def rH (W H : Nat) (h : Nat → Int) (k : Int) (p : Nat) : Int := if p % 9 < W ∧ p / 9 < H then h p + k else h p
/-- the first i points raised. -/
def rU (W H : Nat) (h : Nat → Int) (k : Int) (i : Nat) (p : Nat) : Int := if (p % 9 < W ∧ p / 9 < H) ∧ W * (p / 9) + p % 9 < i then h p + k else h p
theorem rU_zero {W H : Nat} {h : Nat → Int} {k : Int} (p : Nat) : rU W H h k 0 p = h p := if_neg (by omega)
theorem rU_all {W H : Nat} {h : Nat → Int} {k : Int} (p : Nat) : rU W H h k (W * H) p = rH W H h k p := by
  unfold rU rH
  by_cases c : p % 9 < W ∧ p / 9 < H
  · have h1 : W * (p / 9) + p % 9 < W * H := by
      have := Nat.mul_le_mul_left W (show p / 9 + 1 ≤ H from c.2)
      rw [Nat.mul_add] at this
      omega
    rw [if_pos ⟨c, h1⟩, if_pos c]
  · rw [if_neg (fun e => c e.1), if_neg c]
theorem rU_at {W H : Nat} {h : Nat → Int} {k : Int} {x y : Nat} (hx : x < W) (hW : W ≤ 9) : rU W H h k (W * y + x) (y * 9 + x) = h (y * 9 + x) := by
  unfold rU
  have e1 : (y * 9 + x) % 9 = x := by omega
  have e2 : (y * 9 + x) / 9 = y := by omega
  rw [e1, e2]
  exact if_neg (fun e => by have := e.2; omega)
theorem rU_step {W H : Nat} {h : Nat → Int} {k : Int} {x y : Nat} (hx : x < W) (hy : y < H) (hW : W ≤ 9) (p : Nat) (hp : p < 81) :
    (if p = y * 9 + x then h (y * 9 + x) + k else rU W H h k (W * y + x) p) = rU W H h k (W * y + x + 1) p := by
  by_cases e : p = y * 9 + x
  · subst e
    have e1 : (y * 9 + x) % 9 = x := by omega
    have e2 : (y * 9 + x) / 9 = y := by omega
    rw [if_pos rfl]
    unfold rU
    rw [e1, e2, if_pos ⟨⟨hx, hy⟩, by omega⟩]
  · rw [if_neg e]
    unfold rU
    by_cases c : p % 9 < W ∧ p / 9 < H
    · have hne : W * (p / 9) + p % 9 ≠ W * y + x := fun q => by
        have h1 : (W * (p / 9) + p % 9) / W = p / 9 := by rw [Nat.mul_add_div (by omega), Nat.div_eq_of_lt c.1]; omega
        have h2 : (W * y + x) / W = y := by rw [Nat.mul_add_div (by omega), Nat.div_eq_of_lt hx]; omega
        rw [q, h2] at h1
        rw [← h1] at q
        omega
      by_cases d : W * (p / 9) + p % 9 < W * y + x
      · rw [if_pos ⟨c, d⟩, if_pos ⟨c, by omega⟩]
      · rw [if_neg (fun z => d z.2), if_neg (fun z => by have := z.2; omega)]
    · rw [if_neg (fun z => c z.1), if_neg (fun z => c z.1)]
theorem rU_in {W H : Nat} {h : Nat → Int} {k : Int} {i p : Nat} (hh : ∀ p, -32768 ≤ h p ∧ h p ≤ 32767) (ht : Hts W H h) (hW : W ≤ 9) (hk : -200 ≤ k ∧ k ≤ 200) : -32768 ≤ rU W H h k i p ∧ rU W H h k i p ≤ 32767 := by
  unfold rU
  split
  · rename_i c
    have := ht (p % 9, p / 9) c.1.1 c.1.2
    unfold htP at this
    dsimp only at this
    rw [show p / 9 * 9 + p % 9 = p by omega] at this
    omega
  · exact hh p
/-- k more, at the places of a list; 0 elsewhere. -/
def rl {wd ht : Nat} (L : List (PX wd ht)) (h : Nat → Int) (k : Int) (p : Nat) : Int := if (L.any fun x => posP x == p) = true then h p + k else 0
theorem rl_nil {wd ht : Nat} (h : Nat → Int) (k : Int) (p : Nat) : rl ([] : List (PX wd ht)) h k p = 0 := by simp [rl]
theorem rl_snoc {wd ht : Nat} (L : List (PX wd ht)) (x : PX wd ht) (h : Nat → Int) (k : Int) (p : Nat) : (if p = posP x then h (posP x) + k else rl L h k p) = rl (L ++ [x]) h k p := by
  unfold rl
  rw [List.any_append]
  by_cases e : p = posP x
  · subst e; simp
  · have : (posP x == p) = false := by simpa using fun k => e k.symm
    simp only [List.any_cons, List.any_nil, this, if_neg e, Bool.or_false]
theorem rl_all {W H : Nat} {h : Nat → Int} {k : Int} (hp : 0 < W ∧ 0 < H) (hW : W ≤ 9) (hv : gHts W H h 81) (p : Nat) (hp81 : p < 81) : rl (uptoP hp (W * H)) h k p = rH W H h k p := by
  unfold rl rH
  by_cases c : p % 9 < W ∧ p / 9 < H
  · rw [if_pos c, if_pos]
    exact List.any_eq_true.2 ⟨⟨(p % 9, p / 9), c⟩, mem_uptoP hp c.1 c.2, by simp [posP]; omega⟩
  · have h0 : h p = 0 := by
      refine Classical.byContradiction fun hne => c ?_
      obtain ⟨⟨_, h2⟩, _, h4⟩ := (hv p hp81).2 hne
      exact ⟨by omega, by omega⟩
    have ha : ¬ ((uptoP hp (W * H)).any fun x => posP x == p) = true := by
      intro ha
      obtain ⟨x, _, he⟩ := List.any_eq_true.1 ha
      have he' : posP x = p := by simpa using he
      have h1 := x.2.1
      have h2 := x.2.2
      unfold posP at he'
      exact c ⟨by omega, by omega⟩
    rw [if_neg c, if_neg ha, h0]
end Go.Proofs.Ytegnhpanlbfmdaa
