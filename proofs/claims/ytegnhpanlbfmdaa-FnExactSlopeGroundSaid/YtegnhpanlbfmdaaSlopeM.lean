/-
  A ground that slopes: steps to the nearest gully.  Conditions stand at each.
-/
import Derived.Test.YtegnhpanlbfmdaaRows
import Derived.Test.YtegnhpanlbfmdaaBesM
import Derived.Test.YtegnhpanlbfmdaaGndV
import Derived.Test.YtegnhpanlbfmdaaLeastC
import Derived.Test.YtegnhpanlbfmdaaRaiseM
namespace Go.Proofs.Ytegnhpanlbfmdaa
open Go Go.ChangeShapes Go.WideShapes Go.ChangeAt Go.RowKit
set_option linter.unusedVariables false
set_option linter.unusedSimpArgs false
set_option maxRecDepth 100000
set_option maxHeartbeats 4000000
theorem gmax_any (a b M : Int) (w : World) (h : (b < a ∧ M = a) ∨ (a ≤ b ∧ M = b)) : Calls Try.prog 151 #[.int .i64 a, .int .i64 b] w fun e w' => e = .returned (.int .i64 M) ∧ Below w.heap.size w w' := by
  rcases h with ⟨h, rfl⟩ | ⟨h, rfl⟩
  · have d : decide (b < M) = true := by simpa using h
    go_enter Try.func151, Try.ntmps151
    go_wp2_with fail
    go_ret
    exact ⟨rfl, Below.refl _ _⟩
  · have d : decide (M < a) = false := by simpa using h
    go_enter Try.func151, Try.ntmps151
    go_wp2_with fail
    go_ret
    exact ⟨rfl, Below.refl _ _⟩
theorem gmin_any (a b M : Int) (w : World) (h : (a < b ∧ M = a) ∨ (b ≤ a ∧ M = b)) : Calls Try.prog 150 #[.int .i64 a, .int .i64 b] w fun e w' => e = .returned (.int .i64 M) ∧ Below w.heap.size w w' := by
  rcases h with ⟨h, rfl⟩ | ⟨h, rfl⟩
  · have d : decide (M < b) = true := by simpa using h
    go_enter Try.func150, Try.ntmps150
    go_wp2_with fail
    go_ret
    exact ⟨rfl, Below.refl _ _⟩
  · have d : decide (a < M) = false := by simpa using h
    go_enter Try.func150, Try.ntmps150
    go_wp2_with fail
    go_ret
    exact ⟨rfl, Below.refl _ _⟩

/-- the first i points get f1. -/
def gU (W H : Nat) (f0 f1 : Nat → Int) (i : Nat) (p : Nat) : Int := if (p % 9 < W ∧ p / 9 < H) ∧ W * (p / 9) + p % 9 < i then f1 p else f0 p
theorem gU_zero {W H : Nat} {f0 f1 : Nat → Int} (p : Nat) : gU W H f0 f1 0 p = f0 p := if_neg (by omega)
def gA (W H : Nat) (f0 f1 : Nat → Int) (p : Nat) : Int := if p % 9 < W ∧ p / 9 < H then f1 p else f0 p
theorem gU_all {W H : Nat} {f0 f1 : Nat → Int} (p : Nat) : gU W H f0 f1 (W * H) p = gA W H f0 f1 p := by
  unfold gU gA
  by_cases c : p % 9 < W ∧ p / 9 < H
  · have h1 : W * (p / 9) + p % 9 < W * H := by
      have := Nat.mul_le_mul_left W (show p / 9 + 1 ≤ H from c.2)
      rw [Nat.mul_add] at this
      omega
    rw [if_pos ⟨c, h1⟩, if_pos c]
  · rw [if_neg (fun e => c e.1), if_neg c]
theorem gU_step {W H : Nat} {f0 f1 : Nat → Int} {x y : Nat} (hx : x < W) (hy : y < H) (hW : W ≤ 9) (p : Nat) (hp : p < 81) :
    (if p = y * 9 + x then f1 (y * 9 + x) else gU W H f0 f1 (W * y + x) p) = gU W H f0 f1 (W * y + x + 1) p := by
  by_cases e : p = y * 9 + x
  · subst e
    have e1 : (y * 9 + x) % 9 = x := by omega
    have e2 : (y * 9 + x) / 9 = y := by omega
    rw [if_pos rfl]
    unfold gU
    rw [e1, e2, if_pos ⟨⟨hx, hy⟩, by omega⟩]
  · rw [if_neg e]
    unfold gU
    by_cases c : p % 9 < W ∧ p / 9 < H
    · have hne : W * (p / 9) + p % 9 ≠ W * y + x := fun q => by
        have h1 : (W * (p / 9) + p % 9) / W = p / 9 := by rw [Nat.mul_add_div (by omega), Nat.div_eq_of_lt c.1]; omega
        have h2 : (W * y + x) / W = y := by rw [Nat.mul_add_div (by omega), Nat.div_eq_of_lt hx]; omega
        rw [q, h2] at h1
        rw [← h1] at q
        omega
      by_cases d : W * (p / 9) + p % 9 < W * y + x
      · rw [if_pos ⟨c, d⟩, if_pos ⟨c, by omega⟩]
      · rw [if_neg (fun z => d z.2), if_neg (fun z => by have := z.2; omega)]
    · rw [if_neg (fun z => c z.1), if_neg (fun z => c z.1)]
/-- f1 at the places of a list, f0 elsewhere. -/
def gl {wd ht : Nat} (L : List (PX wd ht)) (f0 f1 : Nat → Int) (p : Nat) : Int := if (L.any fun x => posP x == p) = true then f1 p else f0 p
theorem gl_nil {wd ht : Nat} (f0 f1 : Nat → Int) (p : Nat) : gl ([] : List (PX wd ht)) f0 f1 p = f0 p := by simp [gl]
theorem gl_snoc {wd ht : Nat} (L : List (PX wd ht)) (x : PX wd ht) (f0 f1 : Nat → Int) (p : Nat) : (if p = posP x then f1 (posP x) else gl L f0 f1 p) = gl (L ++ [x]) f0 f1 p := by
  unfold gl
  rw [List.any_append]
  by_cases e : p = posP x
  · subst e; simp
  · have : (posP x == p) = false := by simpa using fun k => e k.symm
    simp only [List.any_cons, List.any_nil, this, if_neg e, Bool.or_false]
theorem gl_all {W H : Nat} {f0 f1 : Nat → Int} (hp : 0 < W ∧ 0 < H) (hW : W ≤ 9) (p : Nat) : gl (uptoP hp (W * H)) f0 f1 p = gA W H f0 f1 p := by
  unfold gl gA
  by_cases c : p % 9 < W ∧ p / 9 < H
  · rw [if_pos c, if_pos]
    exact List.any_eq_true.2 ⟨⟨(p % 9, p / 9), c⟩, mem_uptoP hp c.1 c.2, by simp [posP]; omega⟩
  · have ha : ¬ ((uptoP hp (W * H)).any fun x => posP x == p) = true := by
      intro ha
      obtain ⟨x, _, he⟩ := List.any_eq_true.1 ha
      have he' : posP x = p := by simpa using he
      have h1 := x.2.1
      have h2 := x.2.2
      unfold posP at he'
      exact c ⟨by omega, by omega⟩
    rw [if_neg c, if_neg ha]

def ab (a : Int) : Int := if a < 0 then -a else a
/-- steps to gully k. -/
def ds (c : Nat → Int) (x y : Nat) (k : Nat) : Int := ab ((x : Int) - c (2 * k)) + ab ((y : Int) - c (2 * k + 1))
/-- the least of the first ones and 100. -/
def mnS (c : Nat → Int) (x y : Nat) : Nat → Int
  | 0 => 100
  | k + 1 => if mnS c x y k < ds c x y k then mnS c x y k else ds c x y k
theorem ds_in {W H : Nat} {c : Nat → Int} {x y n : Nat} (hW : W ≤ 9) (hH : H ≤ 9) (hx : x < W) (hy : y < H) (hg : gGls W H c n) {k : Nat} (hk : k < n) : 0 ≤ ds c x y k ∧ ds c x y k ≤ 16 := by
  obtain ⟨⟨⟨h1, h2⟩, h3, h4⟩, _⟩ := hg k hk
  unfold ds ab
  split <;> split <;> omega
theorem mnS_in {W H : Nat} {c : Nat → Int} {x y n : Nat} (hW : W ≤ 9) (hH : H ≤ 9) (hx : x < W) (hy : y < H) (hg : gGls W H c n) : ∀ k, k ≤ n → 0 ≤ mnS c x y k ∧ mnS c x y k ≤ 100 ∧ ∀ j, j < k → mnS c x y k ≤ ds c x y j
  | 0, _ => ⟨by show (0 : Int) ≤ 100; omega, Int.le_refl _, fun j hj => absurd hj (by omega)⟩
  | k + 1, hk => by
    obtain ⟨h1, h2, h3⟩ := mnS_in hW hH hx hy hg k (by omega)
    have h4 := ds_in hW hH hx hy hg (show k < n by omega)
    show 0 ≤ (if mnS c x y k < ds c x y k then mnS c x y k else ds c x y k) ∧ (if mnS c x y k < ds c x y k then mnS c x y k else ds c x y k) ≤ 100 ∧ ∀ j, j < k + 1 → (if mnS c x y k < ds c x y k then mnS c x y k else ds c x y k) ≤ ds c x y j
    by_cases hl : mnS c x y k < ds c x y k
    · rw [if_pos hl]
      refine ⟨h1, h2, fun j hj => ?_⟩
      by_cases e : j = k
      · subst e; omega
      · exact h3 j (by omega)
    · rw [if_neg hl]
      refine ⟨h4.1, by omega, fun j hj => ?_⟩
      by_cases e : j = k
      · subst e; exact Int.le_refl _
      · have := h3 j (by omega); omega
theorem mnS_or {c : Nat → Int} {x y : Nat} : ∀ n, mnS c x y n = 100 ∨ ∃ j, j < n ∧ mnS c x y n = ds c x y j
  | 0 => .inl rfl
  | k + 1 => by
    show (if mnS c x y k < ds c x y k then mnS c x y k else ds c x y k) = 100 ∨ ∃ j, j < k + 1 ∧ (if mnS c x y k < ds c x y k then mnS c x y k else ds c x y k) = ds c x y j
    by_cases hl : mnS c x y k < ds c x y k
    · rw [if_pos hl]
      exact (mnS_or k).imp id fun ⟨j, h1, h2⟩ => ⟨j, by omega, h2⟩
    · rw [if_neg hl]
      exact .inr ⟨k, by omega, rfl⟩
theorem mnS_ls {W H : Nat} {c : Nat → Int} {x y n : Nat} (hW : W ≤ 9) (hH : H ≤ 9) (hx : x < W) (hy : y < H) (hg : gGls W H c n) (hn : 1 ≤ n) : ds c x y (lsS (ds c x y) n).1 = mnS c x y n := by
  obtain ⟨l1, l2, l3, l4⟩ := lsS_spec (ds c x y) n hn
  obtain ⟨m1, m2, m3⟩ := mnS_in hW hH hx hy hg n (Nat.le_refl _)
  have h4 := ds_in hW hH hx hy hg l1
  rcases mnS_or (c := c) (x := x) (y := y) n with e | ⟨j, h1, h2⟩
  · have := m3 _ l1; omega
  · have := l3 j h1
    have := m3 _ l1
    omega
/-- the heights. -/
def sF (c : Nat → Int) (n : Nat) (fall : Int) (p : Nat) : Int := mnS c (p % 9) (p / 9) n * fall
theorem sF_at {c : Nat → Int} {n : Nat} {fall : Int} {x y : Nat} (hx : x < 9) : sF c n fall (y * 9 + x) = mnS c x y n * fall := by
  unfold sF
  rw [show (y * 9 + x) % 9 = x by omega, show (y * 9 + x) / 9 = y by omega]
/-- too high at a point. -/
def Over (W : Nat) (c : Nat → Int) (n : Nat) (fall : Int) (i : Nat) : Prop := 200 < mnS c (cl W i).1 (cl W i).2 n * fall
theorem zeroHts (W H : Nat) : gHts W H (fun _ => 0) 81 := fun p _ => ⟨⟨Int.le_refl _, by show (0 : Int) ≤ 200; omega⟩, fun h => absurd rfl h⟩
theorem gvalid0 {X Y : Int} {n : Nat} {c : Nat → Int} : GValid X Y (fun _ => 0) n c ↔ gHead X Y n ∧ gGls X Y c n := ⟨fun h => ⟨h.1, h.2.2⟩, fun h => ⟨h.1, fun p _ => ⟨⟨Int.le_refl _, by show (0 : Int) ≤ 200; omega⟩, fun h => absurd rfl h⟩, h.2⟩⟩
end Go.Proofs.Ytegnhpanlbfmdaa
