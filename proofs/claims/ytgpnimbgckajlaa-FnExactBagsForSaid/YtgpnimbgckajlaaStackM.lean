/-
  Stacks of slabs: the mathematics. Conditions stand at each.
-/
import Derived.Test.YtgpnimbgckajlaaRows
namespace Go.Proofs.Ytgpnimbgckajlaa
open Go
set_option linter.unusedVariables false
set_option linter.unusedSimpArgs false

/-- i is the first place of a number. -/
def FirstAt (d : Nat → Int) (m : Nat) (v : Int) (i : Nat) : Prop := i < m ∧ d i = v ∧ ∀ j, j < i → d j ≠ v
theorem FirstAt.one {d : Nat → Int} {m i j : Nat} {v : Int} (h : FirstAt d m v i) (k : FirstAt d m v j) : i = j := by
  rcases Nat.lt_trichotomy i j with e | e | e
  · exact absurd h.2.1 (k.2.2 i e)
  · exact e
  · exact absurd k.2.1 (h.2.2 j e)
theorem firstAt_ex (d : Nat → Int) (v : Int) : ∀ m, (∃ k, k < m ∧ d k = v) → ∃ i, FirstAt d m v i
  | 0, ⟨k, hk, _⟩ => by omega
  | m + 1, ⟨k, hk, e⟩ => by
    by_cases h : ∃ k, k < m ∧ d k = v
    · obtain ⟨i, hi⟩ := firstAt_ex d v m h
      exact ⟨i, by have := hi.1; omega, hi.2⟩
    · have : k = m := by
        apply Classical.byContradiction
        intro hne
        exact h ⟨k, by omega, e⟩
      subst this
      exact ⟨k, by omega, e, fun j hj he => h ⟨j, hj, he⟩⟩
open Classical in
/-- the turn of a number. -/
noncomputable def tn (d : Nat → Int) (m : Nat) (v : Int) : Nat := if h : ∃ i, FirstAt d m v i then Classical.choose h else 0
theorem tn_eq {d : Nat → Int} {m i : Nat} {v : Int} (h : FirstAt d m v i) : tn d m v = i := by
  have he : ∃ i, FirstAt d m v i := ⟨i, h⟩
  unfold tn
  rw [dif_pos he]
  exact (Classical.choose_spec he).one h
/-- no number comes twice. -/
def Apart1 (n : Nat) (c : Nat → Int) : Prop := ∀ i, i < n → ∀ j, j < i → c j ≠ c i
/-- two orders of the same numbers. -/
def Again (n : Nat) (c : Nat → Int) (m : Nat) (d : Nat → Int) : Prop := Apart1 n c ∧ n = m ∧ ∀ i, i < n → ∃ k, k < m ∧ d k = c i
def LfCode (n : Nat) (c : Nat → Int) (r : Int) : Prop := (10 < n ∧ r = 3) ∨ (n ≤ 10 ∧ ¬ Apart1 n c ∧ r = 4) ∨ (n ≤ 10 ∧ Apart1 n c ∧ r = 0)
def StCode (n : Nat) (c : Nat → Int) (m : Nat) (d : Nat → Int) (r : Int) : Prop := (10 < n ∧ r = 3) ∨ (n ≤ 10 ∧ ¬ Again n c m d ∧ r = 4) ∨ (n ≤ 10 ∧ Again n c m d ∧ r = 0)
theorem LfCode.one {n : Nat} {c : Nat → Int} {r s : Int} (h : LfCode n c r) (k : LfCode n c s) : r = s := by
  rcases h with ⟨a, rfl⟩ | ⟨a, b, rfl⟩ | ⟨a, b, rfl⟩ <;> rcases k with ⟨a', rfl⟩ | ⟨a', b', rfl⟩ | ⟨a', b', rfl⟩ <;> first | rfl | omega | exact absurd b' b | exact absurd b b'
theorem StCode.one {n : Nat} {c : Nat → Int} {m : Nat} {d : Nat → Int} {r s : Int} (h : StCode n c m d r) (k : StCode n c m d s) : r = s := by
  rcases h with ⟨a, rfl⟩ | ⟨a, b, rfl⟩ | ⟨a, b, rfl⟩ <;> rcases k with ⟨a', rfl⟩ | ⟨a', b', rfl⟩ | ⟨a', b', rfl⟩ <;> first | rfl | omega | exact absurd b' b | exact absurd b b'
/-- the turns of slabs that are lifted. -/
noncomputable def tnF (c : Nat → Int) (m : Nat) (d : Nat → Int) (i : Nat) : Int := (tn d m (c i) : Int)
theorem tnF_at {n : Nat} {c : Nat → Int} {m : Nat} {d : Nat → Int} (h : Again n c m d) {i : Nat} (hi : i < n) : FirstAt d m (c i) (tn d m (c i)) := by
  obtain ⟨k, hk⟩ := firstAt_ex d (c i) m (h.2.2 i hi)
  rwa [tn_eq hk]
theorem tnF_bd {n : Nat} {c : Nat → Int} {m : Nat} {d : Nat → Int} (h : Again n c m d) {i : Nat} (hi : i < n) : 0 ≤ tnF c m d i ∧ tnF c m d i < (n : Int) := by
  have := (tnF_at h hi).1
  have e := h.2.1
  unfold tnF
  omega
theorem tnF_ne {n : Nat} {c : Nat → Int} {m : Nat} {d : Nat → Int} (h : Again n c m d) {i j : Nat} (hi : i < n) (hj : j < i) : tnF c m d j ≠ tnF c m d i := by
  intro e
  have e' : tn d m (c j) = tn d m (c i) := by unfold tnF at e; omega
  have h1 := (tnF_at h (show j < n by omega)).2.1
  have h2 := (tnF_at h hi).2.1
  rw [e', h2] at h1
  exact h.1 i hi j hj h1.symm
/-- among as many places no number of another list comes twice, if all of a list without such ones lie there. -/
theorem apart_len : ∀ (l r : List Int), l.Nodup → (∀ x ∈ l, x ∈ r) → l.length ≤ r.length
  | [], r, _, _ => by simp
  | a :: l, r, hn, hs => by
    have ha : a ∈ r := hs a (by simp)
    have h1 := apart_len l (r.erase a) (List.nodup_cons.1 hn).2 (fun x hx => by
      have hne : x ≠ a := fun e => (List.nodup_cons.1 hn).1 (e ▸ hx)
      exact (List.mem_erase_of_ne hne).2 (hs x (by simp [hx])))
    rw [List.length_erase_of_mem ha] at h1
    have : 0 < r.length := List.length_pos_of_mem ha
    simp only [List.length_cons]
    omega
theorem again_apart {n : Nat} {c d : Nat → Int} (h : Again n c n d) : Apart1 n d := by
  intro i hi j hj e
  -- the numbers of d without the place i hold all of c
  let l := (List.range n).map c
  let r := ((List.range n).eraseIdx i).map d
  have hl : l.Nodup := by
    show ((List.range n).map c).Nodup
    rw [List.nodup_iff_pairwise_ne, List.pairwise_map]
    refine List.Pairwise.imp_of_mem ?_ (List.pairwise_lt_range (n := n))
    intro a b ha hb hab
    exact h.1 b (List.mem_range.1 hb) a hab
  have hs : ∀ x ∈ l, x ∈ r := by
    intro x hx
    obtain ⟨k, hk, rfl⟩ := List.mem_map.1 hx
    obtain ⟨p, hp, e'⟩ := h.2.2 k (List.mem_range.1 hk)
    have key : ∀ q, q < n → q ≠ i → d q ∈ r := by
      intro q hq hne
      refine List.mem_map.2 ⟨q, ?_, rfl⟩
      rw [List.mem_eraseIdx_iff_getElem]
      exact ⟨q, by simpa using hq, hne, by simp⟩
    by_cases hpi : p = i
    · rw [← e', hpi, ← e]
      exact key j (by omega) (by omega)
    · rw [← e']
      exact key p hp hpi
  have := apart_len l r hl hs
  have h1 : l.length = n := by simp [l]
  have h2 : r.length = n - 1 := by
    show (((List.range n).eraseIdx i).map d).length = _
    rw [List.length_map, List.length_eraseIdx_of_lt (by simpa using hi)]
    simp
  omega

/-- what lies on stack p behind k slabs, the uppermost one last. -/
def pl (s : Nat → Int) (f : Nat → Int) (k : Nat) (p : Nat) : List Int := ((List.range k).filter fun j => s j == (p : Int)).map f
theorem pl_zero (s f : Nat → Int) (p : Nat) : pl s f 0 p = [] := rfl
theorem pl_on {s f : Nat → Int} {k p : Nat} (h : s k = (p : Int)) : pl s f (k + 1) p = pl s f k p ++ [f k] := by
  unfold pl
  rw [List.range_succ, List.filter_append, List.map_append]
  simp [h]
theorem pl_off {s f : Nat → Int} {k p : Nat} (h : s k ≠ (p : Int)) : pl s f (k + 1) p = pl s f k p := by
  unfold pl
  rw [List.range_succ, List.filter_append, List.map_append]
  simp [h]
theorem pl_length (s f : Nat → Int) (k p : Nat) : (pl s f k p).length ≤ k := by
  unfold pl
  rw [List.length_map]
  exact Nat.le_trans (List.length_filter_le _ _) (by simp)
theorem pl_mem {s f : Nat → Int} {k p : Nat} {x : Int} : x ∈ pl s f k p ↔ ∃ j, j < k ∧ s j = (p : Int) ∧ f j = x := by
  unfold pl
  rw [List.mem_map]
  constructor
  · rintro ⟨j, hj, rfl⟩
    have := List.mem_filter.1 hj
    exact ⟨j, List.mem_range.1 this.1, by simpa using this.2, rfl⟩
  · rintro ⟨j, hj, hs, rfl⟩
    exact ⟨j, List.mem_filter.2 ⟨List.mem_range.2 hj, by simpa using hs⟩, rfl⟩
theorem pl_congr {s s' f : Nat → Int} {k : Nat} (h : ∀ j, j < k → s j = s' j) (p : Nat) : pl s f k p = pl s' f k p := by
  unfold pl
  congr 1
  refine List.filter_congr fun j hj => ?_
  rw [h j (List.mem_range.1 hj)]
/-- the stacks of the first k slabs are right. -/
def StRight (s f : Nat → Int) (k : Nat) : Prop := ∀ i, i < k → ∀ j, j < i → s j = s i → ¬ f j < f i
/-- a slab may be put upon what lies there. -/
def Takes (l : List Int) (x : Int) : Prop := ∀ y, l.getLast? = some y → x < y
theorem stRight_last {s f : Nat → Int} : ∀ {k p : Nat}, StRight s f k → ∀ {y : Int}, (pl s f k p).getLast? = some y → ∀ x ∈ pl s f k p, y ≤ x
  | 0, p, _, y, h, x, hx => by simp [pl_zero] at hx
  | k + 1, p, hR, y, h, x, hx => by
    have hR' : StRight s f k := fun i hi j hj e => hR i (by omega) j hj e
    by_cases e : s k = (p : Int)
    · rw [pl_on e] at h hx
      rw [List.getLast?_append] at h
      have hy : f k = y := by simpa using h
      rcases List.mem_append.1 hx with hx | hx
      · obtain ⟨j, hj, hs, rfl⟩ := pl_mem.1 hx
        have := hR k (by omega) j hj (by rw [hs, e])
        omega
      · have : x = f k := by simpa using hx
        omega
    · rw [pl_off e] at h hx
      exact stRight_last hR' h x hx
theorem stRight_succ {s f : Nat → Int} {k p : Nat} (hp : s k = (p : Int)) (hne : ∀ j, j < k → f j ≠ f k) : StRight s f (k + 1) ↔ StRight s f k ∧ Takes (pl s f k p) (f k) := by
  constructor
  · intro h
    refine ⟨fun i hi j hj e => h i (by omega) j hj e, fun y hy => ?_⟩
    obtain ⟨j, hj, hs, rfl⟩ := pl_mem.1 (List.mem_of_getLast? hy)
    have h1 := h k (by omega) j hj (by rw [hs, hp])
    have h2 := hne j hj
    omega
  · rintro ⟨h, ht⟩ i hi j hj e
    rcases Nat.lt_or_ge i k with hik | hik
    · exact h i hik j hj e
    · obtain rfl : i = k := by omega
      have hm : f j ∈ pl s f i p := pl_mem.2 ⟨j, hj, by rw [e, hp], rfl⟩
      cases hl : (pl s f i p).getLast? with
      | none => rw [List.getLast?_eq_none_iff] at hl; rw [hl] at hm; cases hm
      | some y =>
        have h1 := stRight_last h hl _ hm
        have h2 := ht y hl
        omega
end Go.Proofs.Ytgpnimbgckajlaa
