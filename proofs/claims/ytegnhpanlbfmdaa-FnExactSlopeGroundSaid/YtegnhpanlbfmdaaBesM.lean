/-
  The points beside a point, in their order. Conditions stand at each.
-/
import Derived.Test.YtegnhpanlbfmdaaRows
import Derived.Test.YtegnhpanlbfmdaaOwnC
import Derived.Test.YtegnhpanlbfmdaaLandM
import Derived.Test.YtegnhpanlbfmdaaGndT
namespace Go.Proofs.Ytegnhpanlbfmdaa
open Go Go.ChangeShapes Go.WideShapes Go.ChangeAt Go.RowKit
set_option linter.unusedVariables false
set_option linter.unusedSimpArgs false
set_option maxRecDepth 100000

/-- what may be beside x, y: number k. -/
def nbx (x : Nat) : Nat → Int | 0 => (x : Int) | 1 => (x : Int) - 1 | 2 => (x : Int) + 1 | _ => (x : Int)
def nby (y : Nat) : Nat → Int | 0 => (y : Int) - 1 | 1 => (y : Int) | 2 => (y : Int) | _ => (y : Int) + 1
theorem nbx_le {x k : Nat} : (x : Int) - 1 ≤ nbx x k ∧ nbx x k ≤ (x : Int) + 1 := by
  match k with
  | 0 => simp only [nbx]; omega
  | 1 => simp only [nbx]; omega
  | 2 => simp only [nbx]; omega
  | k + 3 => simp only [nbx]; omega
theorem nby_le {y k : Nat} : (y : Int) - 1 ≤ nby y k ∧ nby y k ≤ (y : Int) + 1 := by
  match k with
  | 0 => simp only [nby]; omega
  | 1 => simp only [nby]; omega
  | 2 => simp only [nby]; omega
  | k + 3 => simp only [nby]; omega
instance (X Y a b : Int) : Decidable (gIs X Y a b) := by unfold gIs; infer_instance
/-- the first k of them that lie within. -/
def besK (W H x y : Nat) : Nat → List (Nat × Nat)
  | 0 => []
  | k + 1 => besK W H x y k ++ (if gIs W H (nbx x k) (nby y k) then [((nbx x k).toNat, (nby y k).toNat)] else [])
abbrev besL (W H x y : Nat) : List (Nat × Nat) := besK W H x y 4
section
variable {W H x y k : Nat}
theorem besK_yes {a b : Nat} (h : gIs W H (nbx x k) (nby y k)) (ha : nbx x k = a) (hb : nby y k = b) : besK W H x y (k + 1) = besK W H x y k ++ [(a, b)] := by
  show _ ++ _ = _
  rw [if_pos h, ha, hb]; rfl
theorem besK_no (h : ¬ gIs W H (nbx x k) (nby y k)) : besK W H x y (k + 1) = besK W H x y k := by
  show _ ++ _ = _
  rw [if_neg h]; simp
theorem besK_length (k : Nat) : (besK W H x y k).length ≤ k := by
  induction k with
  | zero => exact Nat.le_refl _
  | succ k ih =>
    show (_ ++ _ : List (Nat × Nat)).length ≤ _
    rw [List.length_append]
    split
    · simp; omega
    · simp; omega
theorem mem_one {P : Prop} [Decidable P] {p q : Nat × Nat} (h : p ∈ (if P then [q] else [])) : P ∧ p = q := by
  split at h
  · rename_i hp; exact ⟨hp, List.mem_singleton.1 h⟩
  · cases h
theorem gIs_nat {a b : Int} (h : gIs W H a b) : ∃ a' b' : Nat, a = a' ∧ b = b' ∧ a' < W ∧ b' < H := by
  obtain ⟨⟨h1, h2⟩, h3, h4⟩ := h
  exact ⟨a.toNat, b.toNat, by omega, by omega, by omega, by omega⟩
theorem gIs_of {a b : Nat} (ha : a < W) (hb : b < H) : gIs W H a b := ⟨⟨by omega, by omega⟩, by omega, by omega⟩
theorem besK_mem : ∀ {k : Nat} {p : Nat × Nat}, p ∈ besK W H x y k → p.1 < W ∧ p.2 < H
  | 0, p, h => by cases h
  | k + 1, p, h => by
    have h' : p ∈ besK W H x y k ++ (if gIs W H (nbx x k) (nby y k) then [((nbx x k).toNat, (nby y k).toNat)] else []) := h
    rcases List.mem_append.1 h' with h1 | h1
    · exact besK_mem h1
    · split at h1
      · rename_i hg
        obtain ⟨a, b, ha, hb, h2, h3⟩ := gIs_nat hg
        simp only [List.mem_singleton] at h1
        subst h1
        rw [ha, hb]
        exact ⟨h2, h3⟩
      · cases h1
/-- who is beside x, y. -/
theorem mem_besL {p : Nat × Nat} : p ∈ besL W H x y ↔ (p.1 < W ∧ p.2 < H) ∧ ((p.1 = x ∧ p.2 + 1 = y) ∨ (p.1 + 1 = x ∧ p.2 = y) ∨ (p.1 = x + 1 ∧ p.2 = y) ∨ (p.1 = x ∧ p.2 = y + 1)) := by
  obtain ⟨a, b⟩ := p
  have e : besL W H x y = ((([] ++ (if gIs W H (x : Int) ((y : Int) - 1) then [((x : Int).toNat, ((y : Int) - 1).toNat)] else [])) ++ (if gIs W H ((x : Int) - 1) (y : Int) then [(((x : Int) - 1).toNat, (y : Int).toNat)] else [])) ++ (if gIs W H ((x : Int) + 1) (y : Int) then [(((x : Int) + 1).toNat, (y : Int).toNat)] else [])) ++ (if gIs W H (x : Int) ((y : Int) + 1) then [((x : Int).toNat, ((y : Int) + 1).toNat)] else []) := rfl
  rw [e]
  simp only [List.nil_append, List.mem_append]
  constructor
  · rintro (((h | h) | h) | h) <;> obtain ⟨⟨⟨h1, h2⟩, h3, h4⟩, h⟩ := mem_one h <;> rw [Prod.mk.injEq] at h <;> exact ⟨⟨by omega, by omega⟩, by omega⟩
  · rintro ⟨⟨h1, h2⟩, h⟩
    rcases h with ⟨rfl, h⟩ | ⟨h, rfl⟩ | ⟨h, rfl⟩ | ⟨rfl, h⟩
    · refine Or.inl (Or.inl (Or.inl ?_)); rw [if_pos ⟨⟨by omega, by omega⟩, by omega, by omega⟩]; simp; omega
    · refine Or.inl (Or.inl (Or.inr ?_)); rw [if_pos ⟨⟨by omega, by omega⟩, by omega, by omega⟩]; simp; omega
    · refine Or.inl (Or.inr ?_); rw [if_pos ⟨⟨by omega, by omega⟩, by omega, by omega⟩]; simp; omega
    · refine Or.inr ?_; rw [if_pos ⟨⟨by omega, by omega⟩, by omega, by omega⟩]; simp; omega
end

/-- the four cells of the candidates. -/
theorem four_get (x0 y0 : Nat) {k : Nat} (hk : k < 4) : (#[Value.int .i8 (x0 : Int), .int .i8 ((y0 : Int) - 1), .int .i8 ((x0 : Int) - 1), .int .i8 (y0 : Int), .int .i8 ((x0 : Int) + 1), .int .i8 (y0 : Int), .int .i8 (x0 : Int), .int .i8 ((y0 : Int) + 1)] : Array Value)[k * 2]? = some (.int .i8 (nbx x0 k)) ∧
    (#[Value.int .i8 (x0 : Int), .int .i8 ((y0 : Int) - 1), .int .i8 ((x0 : Int) - 1), .int .i8 (y0 : Int), .int .i8 ((x0 : Int) + 1), .int .i8 (y0 : Int), .int .i8 (x0 : Int), .int .i8 ((y0 : Int) + 1)] : Array Value)[k * 2 + 1]? = some (.int .i8 (nby y0 k)) := by
  match k, hk with
  | 0, _ => exact ⟨rfl, rfl⟩
  | 1, _ => exact ⟨rfl, rfl⟩
  | 2, _ => exact ⟨rfl, rfl⟩
  | 3, _ => exact ⟨rfl, rfl⟩

theorem snocI {α : Type} {P : List α → Prop} (h0 : P []) (h1 : ∀ L x, P L → P (L ++ [x])) (L : List α) : P L := by
  have h : ∀ M : List α, P M.reverse := by
    intro M
    induction M with
    | nil => exact h0
    | cons x M ih => rw [List.reverse_cons]; exact h1 _ _ ih
  have := h L.reverse
  rwa [List.reverse_reverse] at this
/-- the height of a point. -/
def htP (h : Nat → Int) (p : Nat × Nat) : Int := h (p.2 * 9 + p.1)
/-- the first of the lowest among p and a list behind it. -/
def lowL (h : Nat → Int) (L : List (Nat × Nat)) (p : Nat × Nat) : Nat × Nat := L.foldl (fun b q => if htP h q < htP h b then q else b) p
section
variable {h : Nat → Int} {L : List (Nat × Nat)} {p q : Nat × Nat}
theorem lowL_nil : lowL h [] p = p := rfl
theorem lowL_snoc : lowL h (L ++ [q]) p = if htP h q < htP h (lowL h L p) then q else lowL h L p := by unfold lowL; rw [List.foldl_append]; rfl
theorem lowL_yes (hl : htP h q < htP h (lowL h L p)) : lowL h (L ++ [q]) p = q := by rw [lowL_snoc, if_pos hl]
theorem lowL_no (hl : ¬ htP h q < htP h (lowL h L p)) : lowL h (L ++ [q]) p = lowL h L p := by rw [lowL_snoc, if_neg hl]
theorem lowL_le : ∀ (L : List (Nat × Nat)) (p : Nat × Nat), htP h (lowL h L p) ≤ htP h p ∧ (∀ q ∈ L, htP h (lowL h L p) ≤ htP h q) ∧ (lowL h L p = p ∨ (lowL h L p ∈ L ∧ htP h (lowL h L p) < htP h p)) := by
  intro L p
  refine snocI (P := fun L => htP h (lowL h L p) ≤ htP h p ∧ (∀ q ∈ L, htP h (lowL h L p) ≤ htP h q) ∧ (lowL h L p = p ∨ (lowL h L p ∈ L ∧ htP h (lowL h L p) < htP h p))) ⟨Int.le_refl _, fun q hq => (by cases hq), .inl rfl⟩ (fun L q ih => ?_) L
  · obtain ⟨h1, h2, h3⟩ := ih
    by_cases hl : htP h q < htP h (lowL h L p)
    · rw [lowL_yes hl]
      refine ⟨by omega, fun r hr => ?_, .inr ⟨by simp, by omega⟩⟩
      rcases List.mem_append.1 hr with hr | hr
      · have := h2 r hr; omega
      · rw [List.mem_singleton.1 hr]; omega
    · rw [lowL_no hl]
      refine ⟨h1, fun r hr => ?_, h3.imp id (fun k => ⟨List.mem_append_left _ k.1, k.2⟩)⟩
      rcases List.mem_append.1 hr with hr | hr
      · exact h2 r hr
      · rw [List.mem_singleton.1 hr]; omega
end
/-- the lowest point beside p. -/
abbrev lowP (W H : Nat) (h : Nat → Int) (p : Nat × Nat) : Nat × Nat := lowL h (besL W H p.1 p.2) p
theorem lowP_in {W H : Nat} {h : Nat → Int} {p : Nat × Nat} (hp : p.1 < W ∧ p.2 < H) : (lowP W H h p).1 < W ∧ (lowP W H h p).2 < H := by
  rcases (lowL_le (h := h) (besL W H p.1 p.2) p).2.2 with e | e
  · rw [show lowP W H h p = p from e]; exact hp
  · exact besK_mem e.1
theorem lowP_lt {W H : Nat} {h : Nat → Int} {p : Nat × Nat} (hne : lowP W H h p ≠ p) : htP h (lowP W H h p) < htP h p := by
  rcases (lowL_le (h := h) (besL W H p.1 p.2) p).2.2 with e | e
  · exact absurd e hne
  · exact e.2
theorem lowL_take_in {W H : Nat} {h : Nat → Int} {p : Nat × Nat} (hp : p.1 < W ∧ p.2 < H) (k : Nat) : (lowL h ((besL W H p.1 p.2).take k) p).1 < W ∧ (lowL h ((besL W H p.1 p.2).take k) p).2 < H := by
  rcases (lowL_le (h := h) ((besL W H p.1 p.2).take k) p).2.2 with e | e
  · rw [e]; exact hp
  · exact besK_mem (List.mem_of_mem_take e.1)
theorem take_snoc {α : Type} {L : List α} {k : Nat} {q : α} (h : L[k]? = some q) : L.take (k + 1) = L.take k ++ [q] := by
  rw [List.take_add_one, h]; rfl

/-- whether there is a gully at a point. -/
def gAt (c : Nat → Int) (n : Nat) (p : Nat × Nat) : Prop := ∃ i, i < n ∧ gSame c (p.1 : Int) (p.2 : Int) i
theorem gBef_irrefl {a b : Int} (h : gBef a b a b) : False := by rcases h with h | ⟨_, h⟩ <;> omega
theorem gBef_trans {a b a' b' a'' b'' : Int} (h : gBef a b a' b') (k : gBef a' b' a'' b'') : gBef a b a'' b'' := by
  unfold gBef at *
  omega
theorem gls_bef {X Y : Int} {c : Nat → Int} {n : Nat} (hg : gGls X Y c n) {i : Nat} : ∀ d, i + d + 1 < n → gBef (c (2 * i)) (c (2 * i + 1)) (c (2 * (i + d + 1))) (c (2 * (i + d + 1) + 1))
  | 0, h => (hg (i + 0 + 1) (by omega)).2 i rfl
  | d + 1, h => gBef_trans (gls_bef hg d (by omega)) ((hg (i + (d + 1) + 1) (by omega)).2 (i + d + 1) (by omega))
theorem gls_one {X Y : Int} {c : Nat → Int} {n : Nat} (hg : gGls X Y c n) {a b : Int} {i j : Nat} (hi : i < n) (hj : j < n) (h1 : gSame c a b i) (h2 : gSame c a b j) : i = j := by
  have key : ∀ {i j : Nat}, i < j → j < n → gSame c a b i → gSame c a b j → False := fun {i j} hij hj h1 h2 => by
    obtain ⟨d, rfl⟩ : ∃ d, j = i + d + 1 := ⟨j - i - 1, by omega⟩
    have := gls_bef hg d hj
    rw [h1.1, h1.2, h2.1, h2.2] at this
    exact gBef_irrefl this
  rcases Nat.lt_trichotomy i j with h | h | h
  · exact absurd (key h hj h1 h2) id
  · exact h
  · exact absurd (key h hi h2 h1) id

/-- the step of water, if there is one. -/
def Goes (W H : Nat) (h : Nat → Int) (n : Nat) (c : Nat → Int) (p : Nat × Nat) : Prop := ¬ gAt c n p ∧ lowP W H h p ≠ p
/-- the points on its way. -/
def wayP (W H : Nat) (h : Nat → Int) (p : Nat × Nat) : Nat → Nat × Nat
  | 0 => p
  | k + 1 => lowP W H h (wayP W H h p k)
def wayL (W H : Nat) (h : Nat → Int) (p : Nat × Nat) (k : Nat) : List (Nat × Nat) := (List.range (k + 1)).map (wayP W H h p)
theorem wayL_succ {W H : Nat} {h : Nat → Int} {p : Nat × Nat} {k : Nat} : wayL W H h p (k + 1) = wayL W H h p k ++ [wayP W H h p (k + 1)] := by
  unfold wayL
  rw [List.range_succ, List.map_append]; rfl
theorem wayL_length {W H : Nat} {h : Nat → Int} {p : Nat × Nat} {k : Nat} : (wayL W H h p k).length = k + 1 := by simp [wayL]
theorem wayL_get {W H : Nat} {h : Nat → Int} {p : Nat × Nat} {k i : Nat} (hi : i < k + 1) : (wayL W H h p k)[i]? = some (wayP W H h p i) := by simp [wayL, hi]
theorem wayP_in {W H : Nat} {h : Nat → Int} {p : Nat × Nat} (hp : p.1 < W ∧ p.2 < H) : ∀ k, (wayP W H h p k).1 < W ∧ (wayP W H h p k).2 < H
  | 0 => hp
  | k + 1 => lowP_in (wayP_in hp k)
/-- water stands, or goes away, behind k steps. -/
def Ends (W H : Nat) (h : Nat → Int) (n : Nat) (c : Nat → Int) (p : Nat × Nat) (k : Nat) : Prop := (∀ j, j < k → Goes W H h n c (wayP W H h p j)) ∧ ¬ Goes W H h n c (wayP W H h p k)
theorem Ends.unique {W H : Nat} {h : Nat → Int} {n : Nat} {c : Nat → Int} {p : Nat × Nat} {k k' : Nat} (e : Ends W H h n c p k) (e' : Ends W H h n c p k') : k = k' := by
  rcases Nat.lt_trichotomy k k' with g | g | g
  · exact absurd (e'.1 k g) e.2
  · exact g
  · exact absurd (e.1 k' g) e'.2
end Go.Proofs.Ytegnhpanlbfmdaa
