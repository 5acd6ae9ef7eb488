/-
  The longest row of joints: plain mathematics, and the contract of spec.LongestJoint. Conditions stand at each.
-/
import Derived.Test.YtmbmdplafjminaaRows
import Derived.Test.YtmbmdplafjminaaSpecJoint
import Derived.Test.YtmbmdplafjminaaCells
import Derived.Test.YtmbmdplafjminaaWhole
namespace Go.Proofs.Ytmbmdplafjminaa
open Go Go.ChangeShapes Go.WideShapes Go.ChangeAt Go.RowKit
set_option linter.unusedVariables false
set_option linter.unusedSimpArgs false
set_option maxRecDepth 100000
set_option maxHeartbeats 2000000

def runL (T : Nat → Bool) : Nat → Nat → Nat
  | 0, k => k
  | f + 1, k => if T k then runL T f (k + 1) else k
theorem runL_eq {T : Nat → Bool} {m : Nat} (h : FirstNot T m) : ∀ f k, k ≤ m → m ≤ k + f → runL T f k = m
  | 0, k, h1, h2 => by show k = m; omega
  | f + 1, k, h1, h2 => by
    show (if T k then runL T f (k + 1) else k) = m
    by_cases e : k = m
    · subst e; rw [h.2]; rfl
    · rw [h.1 k (by omega)]
      exact runL_eq h f (k + 1) (by omega) (by omega)
def eastL (G : Nat → Int) (q : Nat × Nat) : Nat := runL (runEast G q.1 q.2) 13 0
def southL (G : Nat → Int) (q : Nat × Nat) : Nat := runL (runSouth G q.1 q.2) 13 0
theorem eastL_eq {G : Nat → Int} {x y m : Nat} (h : FirstNot (runEast G x y) m) (hm : m ≤ 12) : m = eastL G (x, y) := (runL_eq h 13 0 (by omega) (by omega)).symm
theorem southL_eq {G : Nat → Int} {x y m : Nat} (h : FirstNot (runSouth G x y) m) (hm : m ≤ 12) : m = southL G (x, y) := (runL_eq h 13 0 (by omega) (by omega)).symm
abbrev JS := (Nat × Nat) × Nat × Bool
def stepE (G : Nat → Int) (s : JS) (q : Nat × Nat) : JS := if s.2.1 < eastL G q then (q, eastL G q, true) else s
def stepS (G : Nat → Int) (s : JS) (q : Nat × Nat) : JS := if s.2.1 < southL G q then (q, southL G q, false) else s
def bestJ (G : Nat → Int) (L : List (Nat × Nat)) : JS := L.foldl (fun s q => stepS G (stepE G s q) q) ((0, 0), 0, false)
theorem bestJ_snoc (G : Nat → Int) (L : List (Nat × Nat)) (q : Nat × Nat) : bestJ G (L ++ [q]) = stepS G (stepE G (bestJ G L) q) q := by simp [bestJ]
theorem runL_le (T : Nat → Bool) : ∀ f k, runL T f k ≤ k + f
  | 0, k => Nat.le_refl _
  | f + 1, k => by
    show (if T k then runL T f (k + 1) else k) ≤ _
    split
    · have := runL_le T f (k + 1); omega
    · omega
theorem stepE_le {G : Nat → Int} {s : JS} {q : Nat × Nat} (h : s.2.1 ≤ 13) : (stepE G s q).2.1 ≤ 13 := by
  unfold stepE
  split
  · exact Nat.le_trans (runL_le _ 13 0) (by omega)
  · exact h
theorem stepS_le {G : Nat → Int} {s : JS} {q : Nat × Nat} (h : s.2.1 ≤ 13) : (stepS G s q).2.1 ≤ 13 := by
  unfold stepS
  split
  · exact Nat.le_trans (runL_le _ 13 0) (by omega)
  · exact h
theorem bestJ_le (G : Nat → Int) (W : Nat) : ∀ n, (bestJ G (allC W n)).2.1 ≤ 13
  | 0 => by simp [bestJ, allC]
  | n + 1 => by rw [allC_succ, bestJ_snoc]; exact stepS_le (stepE_le (bestJ_le G W n))

theorem sjE (b x y k : Nat) (G : Nat → Int) (w : World) (hx : x < 12) (hk : x + k ≤ 12) (hy : y < 12) (hG : w.rowIs b 93 144 (fun p => .int .i64 (G p))) :
    Calls Try.prog 86 #[.pointer (some ⟨b, 0, none⟩), .int .i8 ((x : Int) + k), .int .i8 (y : Int), .bool true] w fun e w' => e = .returned (.bool (runEast G x y k)) ∧ Below w.heap.size w w' := by
  have ex : (x : Int) + k = ((x + k : Nat) : Int) := by push_cast; rfl
  rw [ex]
  by_cases h12 : 12 ≤ x + k
  · rw [runEast_end G x y k h12]
    refine (sj_out1 b (x + k) y true w h12 hk (by omega)).mono ?_
    rintro e w' ⟨rfl, rfl⟩
    exact ⟨rfl, Below.refl _ _⟩
  · cases y with
    | zero =>
      have e : runEast G x 0 k = false := by
        unfold runEast
        rw [gA_out (x := (x : Int) + (k : Int)) (y := ((0 : Nat) : Int) - 1) (by omega)]
        rfl
      rw [e]
      refine (sj_top b (x + k) w (by omega)).mono ?_
      rintro e w' ⟨rfl, rfl⟩
      exact ⟨rfl, Below.refl _ _⟩
    | succ m =>
      have e : runEast G x (m + 1) k = jb (G (m * 12 + (x + k))) (G ((m + 1) * 12 + (x + k))) := by
        unfold runEast
        rw [ex, show ((m + 1 : Nat) : Int) - 1 = (m : Int) by omega, gA_in G (x + k) m (by omega) (by omega), gA_in G (x + k) (m + 1) (by omega) (by omega)]
      rw [e, show ((m + 1 : Nat) : Int) = (m : Int) + 1 by omega]
      exact sj_across b (x + k) m G w (by omega) (by omega) hG
theorem sjS (b x y k : Nat) (G : Nat → Int) (w : World) (hx : x < 12) (hk : y + k ≤ 12) (hy : y < 12) (hG : w.rowIs b 93 144 (fun p => .int .i64 (G p))) :
    Calls Try.prog 86 #[.pointer (some ⟨b, 0, none⟩), .int .i8 (x : Int), .int .i8 ((y : Int) + k), .bool false] w fun e w' => e = .returned (.bool (runSouth G x y k)) ∧ Below w.heap.size w w' := by
  have ex : (y : Int) + k = ((y + k : Nat) : Int) := by push_cast; rfl
  rw [ex]
  by_cases h12 : 12 ≤ y + k
  · rw [runSouth_end G x y k h12]
    refine (sj_out2 b x (y + k) false w hx h12 hk).mono ?_
    rintro e w' ⟨rfl, rfl⟩
    exact ⟨rfl, Below.refl _ _⟩
  · cases x with
    | zero =>
      have e : runSouth G 0 y k = false := by
        unfold runSouth
        rw [gA_out (x := ((0 : Nat) : Int) - 1) (y := (y : Int) + (k : Int)) (by omega)]
        rfl
      rw [e]
      refine (sj_left b (y + k) w (by omega)).mono ?_
      rintro e w' ⟨rfl, rfl⟩
      exact ⟨rfl, Below.refl _ _⟩
    | succ m =>
      have e : runSouth G (m + 1) y k = jb (G ((y + k) * 12 + m)) (G ((y + k) * 12 + (m + 1))) := by
        unfold runSouth
        rw [ex, show ((m + 1 : Nat) : Int) - 1 = (m : Int) by omega, gA_in G m (y + k) (by omega) (by omega), gA_in G (m + 1) (y + k) (by omega) (by omega)]
      rw [e, show ((m + 1 : Nat) : Int) = (m : Int) + 1 by omega]
      exact sj_down b (y + k) m G w (by omega) (by omega) hG
end Go.Proofs.Ytmbmdplafjminaa
