/-
  slices.SortFunc over slabs by comparePlaces: what a row holds behind it. Conditions stand at each.
-/
import Derived.Test.YtkdakpbkpfigeaaRows
import Derived.Test.YtkdakpbkpfigeaaSortC
import Derived.Test.YtkdakpbkpfigeaaSlabs
namespace Go.Proofs.Ytkdakpbkpfigeaa
open Go Go.ChangeShapes Go.WideShapes Go.ChangeAt Go.RowKit
open Go.Sort (Holds putRow mapBlock PermIn SortedIn HoldsK putRowK flatK get_flatK size_flatK)
set_option linter.unusedVariables false
set_option linter.unusedSimpArgs false
set_option maxRecDepth 100000
set_option maxHeartbeats 2000000

/-- a slab's four numbers. -/
abbrev S4 := Int × Int × Int × Int
def s4 (f : Nat → Int) (i : Nat) : S4 := (f (4 * i), f (4 * i + 1), f (4 * i + 2), f (4 * i + 3))
def toL (f : Nat → Int) (n : Nat) : List S4 := (List.range n).map (s4 f)
/-- one of the four. -/
def c4 (s : S4) (j : Nat) : Int := if j = 0 then s.1 else if j = 1 then s.2.1 else if j = 2 then s.2.2.1 else s.2.2.2
def fL (L : List S4) (j : Nat) : Int := match L[j / 4]? with | some s => c4 s (j % 4) | none => 0
/-- one slab comes before another. -/
def bfr (a b : S4) : Prop := a.2.1 < b.2.1 ∨ (a.2.1 = b.2.1 ∧ a.1 < b.1)
instance (a b : S4) : Decidable (bfr a b) := by unfold bfr; infer_instance
def cf4 (a b : S4) : Int := plc a.1 a.2.1 b.1 b.2.1
def encS (s : S4) : List Value := [.int .i8 s.1, .int .i8 s.2.1, .int .i8 s.2.2.1, .int .i8 s.2.2.2]
theorem toL_length (f : Nat → Int) (n : Nat) : (toL f n).length = n := by simp [toL]
theorem toL_get {f : Nat → Int} {n i : Nat} (h : i < n) : (toL f n)[i]? = some (s4 f i) := by simp [toL, h]
theorem fL_toL {f : Nat → Int} {n j : Nat} (h : j < 4 * n) : fL (toL f n) j = f j := by
  unfold fL
  rw [toL_get (by omega)]
  unfold c4 s4
  have : j % 4 = 0 ∨ j % 4 = 1 ∨ j % 4 = 2 ∨ j % 4 = 3 := by omega
  rcases this with e | e | e | e <;> simp only [e] <;> simp <;> congr 1 <;> omega
theorem fL_at {L : List S4} {i j : Nat} (hi : i < L.length) (hj : j < 4) : fL L (i * 4 + j) = c4 L[i] j := by
  unfold fL
  rw [show (i * 4 + j) / 4 = i by omega, show (i * 4 + j) % 4 = j by omega, List.getElem?_eq_getElem hi]
theorem toL_fL (L : List S4) : toL (fL L) L.length = L := by
  apply List.ext_getElem?
  intro i
  by_cases h : i < L.length
  · rw [toL_get h, List.getElem?_eq_getElem h]
    unfold s4
    rw [show 4 * i = i * 4 + 0 by omega, fL_at h (by omega), show i * 4 + 0 + 1 = i * 4 + 1 by omega, fL_at h (by omega), show i * 4 + 0 + 2 = i * 4 + 2 by omega, fL_at h (by omega), show i * 4 + 0 + 3 = i * 4 + 3 by omega, fL_at h (by omega)]
    rfl
  · rw [List.getElem?_eq_none (by rw [toL_length]; omega), List.getElem?_eq_none (by omega)]

theorem ltOf_cf4 (a b : S4) : ltOf cf4 a b = decide (bfr a b) := by
  unfold ltOf cf4 bfr
  by_cases h : a.2.1 < b.2.1 ∨ (a.2.1 = b.2.1 ∧ a.1 < b.1)
  · rw [decide_eq_true h, decide_eq_true (plc_neg.2 h)]
  · rw [decide_eq_false h, decide_eq_false (fun h' => h (plc_neg.1 h'))]
theorem swo4 : Sort.SWO (ltOf cf4) where
  irrefl x := by rw [ltOf_cf4]; simp [bfr]
  trans x y z h1 h2 := by
    rw [ltOf_cf4] at h1 h2 ⊢
    have h1 := of_decide_eq_true h1
    have h2 := of_decide_eq_true h2
    unfold bfr at h1 h2
    exact decide_eq_true (show bfr x z by unfold bfr; omega)
  ntrans x y z h1 h2 := by
    rw [ltOf_cf4] at h1 h2 ⊢
    have h1 := of_decide_eq_false h1
    have h2 := of_decide_eq_false h2
    unfold bfr at h1 h2
    exact decide_eq_false (show ¬ bfr x z by unfold bfr; omega)

theorem encS_get (s : S4) {j : Nat} (h : j < 4) : (encS s)[j]! = .int .i8 (c4 s j) := by
  have : j = 0 ∨ j = 1 ∨ j = 2 ∨ j = 3 := by omega
  rcases this with rfl | rfl | rfl | rfl <;> rfl

theorem holds_of_own {w : World} {g n : Nat} {f : Nat → Int} (h : Own8 w g 0 (4 * n) f) : HoldsK encS 4 w g 0 (toL f n).toArray := by
  intro j hj
  rw [size_flatK] at hj
  simp [toL_length] at hj
  rw [get_flatK _ _ _ _ (by simp [toL_length]; exact hj), encS_get _ (Nat.mod_lt _ (by decide))]
  have e : (toL f n).toArray[j / 4]! = s4 f (j / 4) := by
    rw [getElem!_pos _ _ (by simp [toL_length]; omega)]
    have := toL_get (f := f) (n := n) (i := j / 4) (by omega)
    rw [List.getElem?_eq_getElem (by rw [toL_length]; omega)] at this
    simpa using this
  rw [e]
  have := h j (by omega)
  refine ⟨this.1.trans ?_, this.2⟩
  have e2 : c4 (s4 f (j / 4)) (j % 4) = f j := by
    have := fL_toL (f := f) (n := n) (j := j) (by omega)
    unfold fL at this
    rwa [toL_get (by omega)] at this
  rw [e2]; rfl
theorem own_of_holds {w : World} {g : Nat} {L : List S4} (h : HoldsK encS 4 w g 0 L.toArray) : Own8 w g 0 (4 * L.length) (fL L) := by
  intro j hj
  have hk := h j (by rw [size_flatK]; simp; omega)
  rw [get_flatK _ _ _ _ (by simp; omega), encS_get _ (Nat.mod_lt _ (by decide)), getElem!_pos _ _ (by simp; omega)] at hk
  refine ⟨hk.1.trans ?_, hk.2⟩
  have := fL_at (L := L) (i := j / 4) (j := j % 4) (by omega) (Nat.mod_lt _ (by decide))
  rw [show j / 4 * 4 + j % 4 = j by omega] at this
  rw [this]
  simp
theorem grown_sort {w : World} {g m : Nat} {d : Array S4} {os : Array Obj} : w.grownBy (sortWorldK encS 4 w g 0 m d os) (some g) := by
  unfold sortWorldK putRowK
  refine ⟨rfl, rfl, rfl, ?_, fun j hj hne => ?_⟩
  · show w.heap.size ≤ ((putRow id (Sort.ahead w m) g 0 (flatK encS 4 d)).heap ++ os).size
    rw [Array.size_append, Sort.size_putRow]
    exact Nat.le_add_right _ _
  · have hne' : j ≠ g := fun e => hne (by rw [e])
    show ((putRow id (Sort.ahead w m) g 0 (flatK encS 4 d)).heap ++ os)[j]? = w.heap[j]?
    rw [Array.getElem?_append_left (by rw [Sort.size_putRow]; exact hj)]
    show (w.heap.modify g _)[j]? = _
    rw [Array.getElem?_modify, if_neg (fun e => hne' e.symm)]

/-- cmp's contract, as the sort asks it. -/
theorem cmpLays (g n : Nat) (w : World) : CmpLays Try.prog 128 #[] encS 4 cf4 g 0 n w := fun m os dk hs x y => by
  have h := cp_exact x.1 x.2.1 x.2.2.1 x.2.2.2 y.1 y.2.1 y.2.2.1 y.2.2.2 (sortWorldK encS 4 w g 0 m dk os)
  exact h

/-- what a list of slabs is behind the sort. -/
def SortedOf (D L : List S4) : Prop := L.Perm D ∧ L.Pairwise (fun a b => ¬ bfr b a)

theorem sortedOf_arr {D : List S4} {d' : Array S4} (h1 : PermIn 0 D.toArray.size D.toArray d') (h2 : SortedIn (ltOf cf4) 0 D.toArray.size d') : SortedOf D d'.toList := by
  obtain ⟨hs, _, hp⟩ := h1
  refine ⟨?_, ?_⟩
  · have e1 : d'.extract 0 D.toArray.size = d' := by rw [← hs]; simp
    have e2 : D.toArray.extract 0 D.toArray.size = D.toArray := by simp
    rw [e1, e2] at hp
    simpa using hp
  · rw [List.pairwise_iff_getElem]
    intro i j hi hj hij
    have := h2 i j (by omega) hij (by simp at hs hj ⊢; omega)
    rw [ltOf_cf4] at this
    have := of_decide_eq_false this
    rw [getElem!_pos _ _ (by simpa using hj), getElem!_pos _ _ (by simpa using hi)] at this
    simpa using this

theorem sort_any (g n cap : Nat) (f : Nat → Int) (w : World) (hn : n ≤ 1048576) (hg : g < w.heap.size) (hO : Own8 w g 0 (4 * n) f) :
    Calls Try.prog 143 #[.slice (some ⟨g, 0, none⟩) n cap, .func (.func 128) #[] #[]] w fun e w' => e = .returned (.tuple #[]) ∧ w.grownBy w' (some g) ∧ ∃ L, SortedOf (toL f n) L ∧ Own8 w' g 0 (4 * n) (fL L) := by
  have eg : ∀ args w, (callFunc 128 args).run Try.prog w = .ok (.enter 128 args) w := enters_of Try.func128 (by kernel_rfl) rfl
  have hsz : (toL f n).toArray.size = n := by simp [toL_length]
  have h := AnyQ.slices_SortFunc sortSlab 4 Try.isAgg110 Try.sizeOf110 encS (fun _ => rfl) (fun x v hv => by simp [encS] at hv; rcases hv with rfl | rfl | rfl | rfl <;> rfl) cf4 swo4 128 #[] g 0 cap (toL f n).toArray w eg (cmpLays g _ w) (holds_of_own hO) hg (by rw [hsz]; omega)
  rw [hsz] at h
  refine Calls.mono h ?_
  rintro e w' ⟨rfl, d', m, os, hp, hs, rfl⟩
  refine ⟨rfl, grown_sort, d'.toList, ?_, ?_⟩
  · refine sortedOf_arr ?_ ?_
    · rw [hsz]; exact hp
    · rw [hsz]; exact hs
  · have hl : d'.toList.length = n := by have := hp.1; rw [hsz] at this; simpa using this
    have hH : HoldsK encS 4 (sortWorldK encS 4 w g 0 m d' os) g 0 d'.toList.toArray := by
      have := holdsK_sortWorldK_c encS 4 w g 0 (toL f n).toArray d' m os (holds_of_own hO) hg (by rw [hp.1])
      simpa using this
    have := own_of_holds hH
    rwa [hl] at this

theorem sort_none (A : Option Addr) (cap : Nat) (w : World) :
    Calls Try.prog 143 #[.slice A 0 cap, .func (.func 128) #[] #[]] w fun e w' => e = .returned (.tuple #[]) ∧ w' = w :=
  AnyF.slices_SortFunc_none sortSlab A cap _ w

/-- two lists that are sorted, of the same slabs with different places, are one. -/
theorem sorted_unique : ∀ {L M : List S4}, L.Perm M → L.Pairwise (fun a b => bfr a b) → M.Pairwise (fun a b => bfr a b) → L = M
  | [], M, h, _, _ => (List.nil_perm.1 h).symm
  | a :: L, [], h, _, _ => by simp at h
  | a :: L, b :: M, h, h1, h2 => by
    obtain ⟨a1, a2⟩ := List.pairwise_cons.1 h1
    obtain ⟨b1, b2⟩ := List.pairwise_cons.1 h2
    have e : a = b := by
      have ha : a ∈ b :: M := h.subset (List.mem_cons_self)
      have hb : b ∈ a :: L := h.symm.subset (List.mem_cons_self)
      rcases List.mem_cons.1 ha with e | ha
      · exact e
      rcases List.mem_cons.1 hb with e | hb
      · exact e.symm
      have x := b1 a ha
      have y := a1 b hb
      unfold bfr at x y
      omega
    subst e
    rw [sorted_unique (List.Perm.cons_inv h) a2 b2]
/-- no two slabs have one place. -/
def Apart (D : List S4) : Prop := D.Pairwise (fun a b => ¬ (a.1 = b.1 ∧ a.2.1 = b.2.1))
theorem SortedOf.strict {D L : List S4} (h : SortedOf D L) (hD : Apart D) : L.Pairwise (fun a b => bfr a b) := by
  have hL : L.Pairwise (fun a b => ¬ (a.1 = b.1 ∧ a.2.1 = b.2.1)) := (h.1.symm.pairwise_iff (fun {a b} hab he => hab ⟨he.1.symm, he.2.symm⟩)).1 hD
  refine (hL.and h.2).imp ?_
  rintro a b ⟨h1, h2⟩
  unfold bfr at h2 ⊢
  omega
theorem SortedOf.unique {D L M : List S4} (h : SortedOf D L) (k : SortedOf D M) (hD : Apart D) : L = M :=
  sorted_unique (h.1.trans k.1.symm) (h.strict hD) (k.strict hD)
end Go.Proofs.Ytkdakpbkpfigeaa
