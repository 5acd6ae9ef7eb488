/-
  The joints of a square by their edges: which edges are joints, the slabs on both sides, and how many there are. It names no program.
-/
import Derived.Test.YtmkcdelfgaogaaaDoorRows
import Derived.Test.YtmkcdelfgaogaaaDoorJoint
namespace Go.Proofs.YtmkcdelfgaogaaaDoor
set_option linter.unusedVariables false
set_option maxRecDepth 100000
/-- the four numbers of an edge; what is told of it. -/
abbrev Ed := Int × Int × Int × Int
abbrev En := Ed × (Int × Int)
/-- is there a joint at the north | the west side of a cell? -/
def nJ (G : Nat → Int) (x y : Int) : Bool := jb (gA G x (y - 1)) (gA G x y)
def wJ (G : Nat → Int) (x y : Int) : Bool := jb (gA G (x - 1) y) (gA G x y)
/-- the slabs on both sides, the lesser one first. -/
def mm (a b : Int) : Int × Int := (min (a - 1) (b - 1), max (a - 1) (b - 1))
def nS (G : Nat → Int) (x y : Int) : Int × Int := mm (gA G x (y - 1)) (gA G x y)
def wS (G : Nat → Int) (x y : Int) : Int × Int := mm (gA G (x - 1) y) (gA G x y)
/-- the joints that begin at a cell. -/
def cellE (G : Nat → Int) (x y : Int) : List En := (if nJ G x y then [((x, y, x + 1, y), nS G x y)] else []) ++ (if wJ G x y then [((x, y, x, y + 1), wS G x y)] else [])
/-- the joints of the first k cells. -/
def jl (W : Nat) (G : Nat → Int) : Nat → List En
  | 0 => []
  | k + 1 => jl W G k ++ cellE G ((k % W : Nat) : Int) ((k / W : Nat) : Int)
theorem jb_zero (b : Int) : jb 0 b = false := by simp [jb]
theorem jb_zero' (b : Int) : jb b 0 = false := by simp [jb]

section
variable {W H : Nat} {G : Nat → Int}
theorem mem_jl {e : En} : ∀ k, e ∈ jl W G k ↔ ∃ i, i < k ∧ e ∈ cellE G ((i % W : Nat) : Int) ((i / W : Nat) : Int)
  | 0 => by simp [jl]
  | k + 1 => by
    unfold jl
    rw [List.mem_append, mem_jl k]
    constructor
    · rintro (⟨i, hi, h⟩ | h)
      · exact ⟨i, by omega, h⟩
      · exact ⟨k, by omega, h⟩
    · rintro ⟨i, hi, h⟩
      by_cases e' : i = k
      · subst e'; exact .inr h
      · exact .inl ⟨i, by omega, h⟩
theorem mem_cellE {x y : Int} {e : En} : e ∈ cellE G x y ↔ (nJ G x y = true ∧ e = ((x, y, x + 1, y), nS G x y)) ∨ (wJ G x y = true ∧ e = ((x, y, x, y + 1), wS G x y)) := by
  unfold cellE
  rw [List.mem_append]
  by_cases h1 : nJ G x y = true <;> by_cases h2 : wJ G x y = true <;> simp [h1, h2]
theorem cellE_keys (x y : Int) : ((cellE G x y).map (·.1)).Nodup := by
  unfold cellE
  by_cases h1 : nJ G x y = true <;> by_cases h2 : wJ G x y = true <;> simp [h1, h2]
  omega
theorem cellE_length (x y : Int) : (cellE G x y).length = (if nJ G x y then 1 else 0) + (if wJ G x y then 1 else 0) := by
  unfold cellE
  by_cases h1 : nJ G x y = true <;> by_cases h2 : wJ G x y = true <;> simp [h1, h2]
/-- beyond the square all is open. -/
def OpenOut (W H : Nat) (G : Nat → Int) : Prop := ∀ x y : Int, ¬ (0 ≤ x ∧ x < W ∧ 0 ≤ y ∧ y < H) → gA G x y = 0
theorem cell_idx {x y : Nat} (hx : x < W) (hy : y < H) : y * W + x < W * H ∧ (y * W + x) % W = x ∧ (y * W + x) / W = y := by
  refine ⟨?_, ?_, ?_⟩
  · have : (y + 1) * W ≤ H * W := Nat.mul_le_mul_right _ hy
    rw [Nat.add_mul, Nat.one_mul] at this
    rw [Nat.mul_comm W H]
    omega
  · rw [Nat.mul_comm, Nat.mul_add_mod]; exact Nat.mod_eq_of_lt hx
  · rw [Nat.mul_comm, Nat.mul_add_div (by omega), Nat.div_eq_of_lt hx]; rfl
theorem mem_all (h : OpenOut W H G) {e : En} : e ∈ jl W G (W * H) ↔ ∃ x y : Int, (nJ G x y = true ∧ e = ((x, y, x + 1, y), nS G x y)) ∨ (wJ G x y = true ∧ e = ((x, y, x, y + 1), wS G x y)) := by
  rw [mem_jl]
  constructor
  · rintro ⟨i, _, hi⟩
    exact ⟨_, _, mem_cellE.1 hi⟩
  · rintro ⟨x, y, hxy⟩
    have hin : 0 ≤ x ∧ x < W ∧ 0 ≤ y ∧ y < H := by
      refine Classical.byContradiction fun hn => ?_
      have h0 := h x y hn
      rcases hxy with ⟨h1, _⟩ | ⟨h1, _⟩
      · unfold nJ at h1; rw [h0, jb_zero'] at h1; cases h1
      · unfold wJ at h1; rw [h0, jb_zero'] at h1; cases h1
    obtain ⟨x', rfl⟩ := Int.eq_ofNat_of_zero_le hin.1
    obtain ⟨y', rfl⟩ := Int.eq_ofNat_of_zero_le hin.2.2.1
    obtain ⟨g1, g2, g3⟩ := cell_idx (W := W) (H := H) (x := x') (y := y') (by omega) (by omega)
    refine ⟨y' * W + x', g1, ?_⟩
    rw [g2, g3]
    exact mem_cellE.2 hxy
/-- is an edge among the joints? -/
def hasE (W H : Nat) (G : Nat → Int) (e : Ed) : Bool := (jl W G (W * H)).any fun en => en.1 == e
theorem hasE_iff (h : OpenOut W H G) {e : Ed} : hasE W H G e = true ↔ ∃ x y : Int, (nJ G x y = true ∧ e = (x, y, x + 1, y)) ∨ (wJ G x y = true ∧ e = (x, y, x, y + 1)) := by
  unfold hasE
  rw [List.any_eq_true]
  constructor
  · rintro ⟨en, hm, he⟩
    have he : en.1 = e := by simpa using he
    subst he
    obtain ⟨x, y, ⟨h1, rfl⟩ | ⟨h1, rfl⟩⟩ := (mem_all h).1 hm
    · exact ⟨x, y, .inl ⟨h1, rfl⟩⟩
    · exact ⟨x, y, .inr ⟨h1, rfl⟩⟩
  · rintro ⟨x, y, ⟨h1, rfl⟩ | ⟨h1, rfl⟩⟩
    · exact ⟨_, (mem_all h).2 ⟨x, y, .inl ⟨h1, rfl⟩⟩, by simp⟩
    · exact ⟨_, (mem_all h).2 ⟨x, y, .inr ⟨h1, rfl⟩⟩, by simp⟩
theorem hasE_n (h : OpenOut W H G) (x y : Int) : hasE W H G (x, y, x + 1, y) = nJ G x y := by
  rw [Bool.eq_iff_iff, hasE_iff h]
  constructor
  · rintro ⟨x', y', ⟨h1, e⟩ | ⟨h1, e⟩⟩
    · simp only [Prod.mk.injEq] at e; obtain ⟨rfl, rfl, _⟩ := e; exact h1
    · simp only [Prod.mk.injEq] at e; omega
  · intro h1; exact ⟨x, y, .inl ⟨h1, rfl⟩⟩
theorem hasE_w (h : OpenOut W H G) (x y : Int) : hasE W H G (x, y, x, y + 1) = wJ G x y := by
  rw [Bool.eq_iff_iff, hasE_iff h]
  constructor
  · rintro ⟨x', y', ⟨h1, e⟩ | ⟨h1, e⟩⟩
    · simp only [Prod.mk.injEq] at e; omega
    · simp only [Prod.mk.injEq] at e; obtain ⟨rfl, rfl, _⟩ := e; exact h1
  · intro h1; exact ⟨x, y, .inr ⟨h1, rfl⟩⟩
/-- the edge between two points. -/
def edE (ax ay bx by_ : Int) : Ed := (min ax bx, min ay by_, max ax bx, max ay by_)
/-- is the edge of a point with a way a joint? -/
def wayJ (G : Nat → Int) (x y : Int) (way : Nat) : Bool := if way = 0 then wJ G x (y - 1) else if way = 1 then nJ G x y else if way = 2 then wJ G x y else nJ G (x - 1) y
/-- is there a joint between two points? -/
def betw (G : Nat → Int) (ax ay bx by_ : Int) : Bool :=
  if bx = ax ∧ by_ = ay - 1 then wJ G ax (ay - 1) else if bx = ax + 1 ∧ by_ = ay then nJ G ax ay else if bx = ax ∧ by_ = ay + 1 then wJ G ax ay else if bx = ax - 1 ∧ by_ = ay then nJ G (ax - 1) ay else false
theorem hasE_betw (h : OpenOut W H G) (ax ay bx by_ : Int) : hasE W H G (edE ax ay bx by_) = betw G ax ay bx by_ := by
  unfold betw
  by_cases h0 : bx = ax ∧ by_ = ay - 1
  · rw [if_pos h0, ← hasE_w h]
    obtain ⟨rfl, rfl⟩ := h0
    congr 1
    unfold edE
    simp only [Prod.mk.injEq]
    omega
  rw [if_neg h0]
  by_cases h1 : bx = ax + 1 ∧ by_ = ay
  · rw [if_pos h1, ← hasE_n h]
    obtain ⟨rfl, rfl⟩ := h1
    congr 1
    unfold edE
    simp only [Prod.mk.injEq]
    omega
  rw [if_neg h1]
  by_cases h2 : bx = ax ∧ by_ = ay + 1
  · rw [if_pos h2, ← hasE_w h]
    obtain ⟨rfl, rfl⟩ := h2
    congr 1
    unfold edE
    simp only [Prod.mk.injEq]
    omega
  rw [if_neg h2]
  by_cases h3 : bx = ax - 1 ∧ by_ = ay
  · rw [if_pos h3, ← hasE_n h]
    obtain ⟨rfl, rfl⟩ := h3
    congr 1
    unfold edE
    simp only [Prod.mk.injEq]
    omega
  rw [if_neg h3]
  rw [Bool.eq_false_iff]
  intro hh
  obtain ⟨x, y, ⟨_, e⟩ | ⟨_, e⟩⟩ := (hasE_iff h).1 hh
  · unfold edE at e
    simp only [Prod.mk.injEq] at e
    omega
  · unfold edE at e
    simp only [Prod.mk.injEq] at e
    omega
theorem jl_keys : ∀ k, ((jl W G k).map (·.1)).Nodup
  | 0 => by simp [jl]
  | k + 1 => by
    unfold jl
    rw [List.map_append, List.nodup_append]
    refine ⟨jl_keys k, cellE_keys _ _, ?_⟩
    · intro a ha b hb e
      obtain ⟨u, hu, rfl⟩ := List.mem_map.1 ha
      obtain ⟨v, hv, rfl⟩ := List.mem_map.1 hb
      obtain ⟨i, hi, hu⟩ := (mem_jl k).1 hu
      have hne : ¬ (i % W = k % W ∧ i / W = k / W) := by
        rintro ⟨e1, e2⟩
        have a1 := Nat.div_add_mod i W
        have a2 := Nat.div_add_mod k W
        rw [e1, e2] at a1
        omega
      rcases mem_cellE.1 hu with ⟨_, rfl⟩ | ⟨_, rfl⟩ <;> rcases mem_cellE.1 hv with ⟨_, rfl⟩ | ⟨_, rfl⟩ <;> simp only [Prod.mk.injEq] at e <;> omega
/-- how many joints begin at a cell. -/
def cntE (G : Nat → Int) (x y : Int) : Nat := (if nJ G x y then 1 else 0) + (if wJ G x y then 1 else 0)
def rasS (W : Nat) (f : Nat → Nat → Nat) : Nat → Nat
  | 0 => 0
  | k + 1 => rasS W f k + f (k % W) (k / W)
theorem jl_length : ∀ k, (jl W G k).length = rasS W (fun x y => cntE G (x : Int) (y : Int)) k
  | 0 => rfl
  | k + 1 => by
    unfold jl rasS
    rw [List.length_append, jl_length k, cellE_length]
    rfl
def rowS (f : Nat → Nat → Nat) (y : Nat) : Nat → Nat
  | 0 => 0
  | x + 1 => rowS f y x + f x y
def allS (W : Nat) (f : Nat → Nat → Nat) : Nat → Nat
  | 0 => 0
  | y + 1 => allS W f y + rowS f y W
theorem rasS_row (f : Nat → Nat → Nat) (y : Nat) : ∀ x, x ≤ W → rasS W f (W * y + x) = rasS W f (W * y) + rowS f y x
  | 0, _ => by simp [rowS]
  | x + 1, h => by
    have e1 : (W * y + x) % W = x := by rw [Nat.mul_add_mod]; exact Nat.mod_eq_of_lt (by omega)
    have e2 : (W * y + x) / W = y := by rw [Nat.mul_add_div (by omega), Nat.div_eq_of_lt (by omega)]; rfl
    show rasS W f (W * y + x) + f ((W * y + x) % W) ((W * y + x) / W) = _
    rw [e1, e2, rasS_row f y x (by omega)]
    show _ = rasS W f (W * y) + (rowS f y x + f x y)
    omega
theorem rasS_all (f : Nat → Nat → Nat) : ∀ y, rasS W f (W * y) = allS W f y
  | 0 => rfl
  | y + 1 => by
    rw [Nat.mul_succ, rasS_row f y W (Nat.le_refl _), rasS_all f y]
    rfl
theorem rowS_wider {f : Nat → Nat → Nat} {y : Nat} (h : f W y = 0) : rowS f y (W + 1) = rowS f y W := by show rowS f y W + f W y = _; omega
theorem allS_wider {f : Nat → Nat → Nat} : ∀ n, (∀ y, y < n → f W y = 0) → allS (W + 1) f n = allS W f n
  | 0, _ => rfl
  | n + 1, h => by
    show allS (W + 1) f n + rowS f n (W + 1) = allS W f n + rowS f n W
    rw [allS_wider n (fun y hy => h y (by omega)), rowS_wider (h n (by omega))]
theorem rowS_zero {f : Nat → Nat → Nat} {y : Nat} : ∀ n, (∀ x, x < n → f x y = 0) → rowS f y n = 0
  | 0, _ => rfl
  | n + 1, h => by
    show rowS f y n + f n y = 0
    rw [rowS_zero n (fun x hx => h x (by omega)), h n (by omega)]
/-- all joints, counted over all points. -/
theorem points_sum {f : Nat → Nat → Nat} (h1 : ∀ y, f W y = 0) (h2 : ∀ x, f x H = 0) : rasS (W + 1) f ((W + 1) * (H + 1)) = rasS W f (W * H) := by
  rw [rasS_all, rasS_all, allS_wider _ (fun y _ => h1 y)]
  show allS W f H + rowS f H W = _
  rw [rowS_zero W (fun x _ => h2 x)]
  rfl
theorem cntE_out (h : OpenOut W H G) {x y : Int} (hn : ¬ (0 ≤ x ∧ x < W ∧ 0 ≤ y ∧ y < H)) : cntE G x y = 0 := by
  unfold cntE nJ wJ
  rw [h x y hn, jb_zero', jb_zero']
  rfl
theorem points_joints (h : OpenOut W H G) : rasS (W + 1) (fun x y => cntE G (x : Int) (y : Int)) ((W + 1) * (H + 1)) = (jl W G (W * H)).length := by
  rw [jl_length, points_sum]
  · intro y; exact cntE_out h (by omega)
  · intro x; exact cntE_out h (by omega)
end
end Go.Proofs.YtmkcdelfgaogaaaDoor
