/-
  Contracts of the law's helpers that mark a result's memory and look whether the marks hold (markSlabS, heldSlabS, markSquare, heldSquare). Conditions stand at each.
-/
import Derived.Test.YtmkcdelfgaogaaaDoorRows
import Derived.Test.YtmkcdelfgaogaaaDoorBase
import Derived.IntWalk
import Derived.Maps.AppendAt
namespace Go.Proofs.YtmkcdelfgaogaaaDoor
open Go Go.ChangeShapes Go.WideShapes Go.ChangeAt Go.RowKit
set_option linter.unusedVariables false
set_option maxRecDepth 100000

/-- n cells of block g from off on hold the int8s f 0, f 1, .., and may be written. -/
def Own8 (w : World) (g off n : Nat) (f : Nat → Int) : Prop :=
  ∀ j, j < n → w.cell? ⟨g, off + j, none⟩ = some (.int .i8 (f j)) ∧ w.frozen? ⟨g, off + j, none⟩ = false

section
variable {w w' : World} {g off n : Nat} {f f' : Nat → Int}
theorem Own8.congr (h : Own8 w g off n f) (e : ∀ j, j < n → f j = f' j) : Own8 w g off n f' := fun j hj => by rw [← e j hj]; exact h j hj
theorem Own8.set (h : Own8 w g off n f) {i : Nat} (hi : i < n) (v : Int) : Own8 (w.setCell ⟨g, off + i, none⟩ (.int .i8 v)) g off n (fun j => if j = i then v else f j) := fun j hj => by
  refine ⟨?_, by rw [World.frozen?_setCell]; exact (h j hj).2⟩
  by_cases e : j = i
  · subst e
    simp only [if_true]
    exact World.cell?_setCell_same' _ _ _ (by rw [(h j hj).1]; rfl)
  · simp only [if_neg e]
    rw [World.cell?_setCell_other w _ _ _ (fun he => e (by injection he; omega))]
    exact (h j hj).1
theorem Own8.at4 {n k : Nat} (h : Own8 w g off (4 * n) f) (hk : k < n) :
    (w.cell? ⟨g, off + k * 4, none⟩ = some (.int .i8 (f (4 * k))) ∧ w.cell? ⟨g, off + k * 4 + 1, none⟩ = some (.int .i8 (f (4 * k + 1))) ∧ w.cell? ⟨g, off + k * 4 + 2, none⟩ = some (.int .i8 (f (4 * k + 2))) ∧ w.cell? ⟨g, off + k * 4 + 3, none⟩ = some (.int .i8 (f (4 * k + 3)))) ∧
    (w.frozen? ⟨g, off + k * 4, none⟩ = false ∧ w.frozen? ⟨g, off + k * 4 + 1, none⟩ = false ∧ w.frozen? ⟨g, off + k * 4 + 2, none⟩ = false ∧ w.frozen? ⟨g, off + k * 4 + 3, none⟩ = false) := by
  have c0 := h (4 * k) (by omega)
  have c1 := h (4 * k + 1) (by omega)
  have c2 := h (4 * k + 2) (by omega)
  have c3 := h (4 * k + 3) (by omega)
  rw [show off + 4 * k = off + k * 4 by omega] at c0
  rw [show off + (4 * k + 1) = off + k * 4 + 1 by omega] at c1
  rw [show off + (4 * k + 2) = off + k * 4 + 2 by omega] at c2
  rw [show off + (4 * k + 3) = off + k * 4 + 3 by omega] at c3
  exact ⟨⟨c0.1, c1.1, c2.1, c3.1⟩, c0.2, c1.2, c2.2, c3.2⟩
theorem Own8.set4 {n k : Nat} (h : Own8 w g off (4 * n) f) (hk : k < n) (v0 v1 v2 v3 : Int) :
    Own8 ((((w.setCell ⟨g, off + k * 4, none⟩ (.int .i8 v0)).setCell ⟨g, off + k * 4 + 1, none⟩ (.int .i8 v1)).setCell ⟨g, off + k * 4 + 2, none⟩ (.int .i8 v2)).setCell ⟨g, off + k * 4 + 3, none⟩ (.int .i8 v3)) g off (4 * n)
      (fun j => if j = k * 4 + 3 then v3 else if j = k * 4 + 2 then v2 else if j = k * 4 + 1 then v1 else if j = k * 4 then v0 else f j) :=
  (((h.set (i := k * 4) (by omega) v0).set (i := k * 4 + 1) (by omega) v1).set (i := k * 4 + 2) (by omega) v2).set (i := k * 4 + 3) (by omega) v3
theorem Own8.rd (h : Own8 w g off n f) {B : Nat} (hg : g < B) : Rd8 w B (some ⟨g, off, none⟩) n f := fun _ => ⟨g, off, rfl, hg, fun j hj => (h j hj).1⟩
theorem Own8.of_row {t : TypeId} (h : w.rowIs g t n (fun j => .int .i8 (f j))) : Own8 w g 0 n f := fun j hj => by
  rw [Nat.zero_add]; exact ⟨h.cell hj, h.frozen j⟩
theorem Own8.of_block (h : Own8 w g off n f) (e : w'.heap[g]? = w.heap[g]?) : Own8 w' g off n f := fun j hj =>
  ⟨(World.cell?_of_block (w := w) e).trans (h j hj).1, (World.frozen?_of_block (w := w) e).trans (h j hj).2⟩
end

theorem grown_set {w wr : World} {g : Nat} (h : w.grownBy wr (some g)) (i : Nat) (v : Value) : w.grownBy (wr.setCell ⟨g, i, none⟩ v) (some g) :=
  ⟨h.os, h.tape, h.output, by simpa [World.setCell] using h.size, fun j hj hne => (Below.heap_setCell wr _ v j (by rintro rfl; exact hne rfl)).trans (h.block j hj hne)⟩

/-- the marks that begin with k0. -/
def mk8 (k0 : Int) (j : Nat) : Int := IntKind.i8.wrap (k0 + j)

theorem markSlabS_any (A : Option Addr) (g off n cap : Nat) (c : Nat → Int) (k0 : Int) (w : World) (hk0 : 0 ≤ k0) (hk1 : k0 ≤ 1000000000) (hn : n ≤ 1048576) (hA : 0 < n → A = some ⟨g, off, none⟩) (ho : Own8 w g off (4 * n) c) :
    Calls Tryd.prog 41 #[.slice A n cap, .int .i64 k0] w fun e w' => e = .returned (.int .i64 (k0 + 4 * n)) ∧ w.grownBy w' (some g) ∧ Own8 w' g off (4 * n) (mk8 k0) := by
  go_enter Tryd.func41, Tryd.ntmps41
  go_wp2
  go_loopw [1, 5] (fun kk i wr => ∃ m : Nat, m ≤ n ∧ i = .int .i64 m ∧ kk = .int .i64 (k0 + 4 * m) ∧ w.grownBy wr (some g) ∧ Own8 wr g off (4 * n) (fun j => if j < 4 * m then mk8 k0 j else c j)) (fun kk i wr => n - (intOf i).toNat)
  case atStart => exact ⟨0, by omega, rfl, by simp, World.grownBy.refl _ _, ho.congr (fun j _ => by simp)⟩
  case round =>
    obtain ⟨m, hm, rfl, rfl, hgr, hr⟩ := hrel
    by_cases hlt : m < n
    · obtain rfl := hA (by omega)
      obtain ⟨⟨c0, c1, c2, c3⟩, f0, f1, f2, f3⟩ := hr.at4 hlt
      go_wp2
      refine ⟨⟨m + 1, by omega, by go_num, ?_, grown_set (grown_set (grown_set (grown_set hgr _ _) _ _) _ _) _ _, (hr.set4 hlt _ _ _ _).congr fun j hj => ?_⟩, by simp [intOf]; omega⟩
      · congr 1; omega
      · by_cases h3 : j = m * 4 + 3
        · rw [if_pos h3, if_pos (by omega)]; show _ = IntKind.i8.wrap _; exact congrArg _ (by omega)
        rw [if_neg h3]
        by_cases h2 : j = m * 4 + 2
        · rw [if_pos h2, if_pos (by omega)]; show _ = IntKind.i8.wrap _; exact congrArg _ (by omega)
        rw [if_neg h2]
        by_cases h1 : j = m * 4 + 1
        · rw [if_pos h1, if_pos (by omega)]; show _ = IntKind.i8.wrap _; exact congrArg _ (by omega)
        rw [if_neg h1]
        by_cases h0 : j = m * 4
        · rw [if_pos h0, if_pos (by omega)]; show _ = IntKind.i8.wrap _; exact congrArg _ (by omega)
        rw [if_neg h0]
        by_cases hj : j < 4 * m
        · rw [if_pos hj, if_pos (by omega)]
        · rw [if_neg hj, if_neg (by omega)]
    · obtain rfl : m = n := by omega
      go_wp2
      go_ret
      exact ⟨rfl, hgr, hr.congr (fun j hj => by rw [if_pos hj])⟩

/-- the world has new blocks, and block g has turned: that only, where g lay there. -/
theorem below_grown {w a b : World} {g B : Nat} (h : Below B w a) (hg : a.grownBy b (some g)) (hB : B ≤ a.heap.size) (hgB : B ≤ g) : Below B w b :=
  h.grown hg hB (fun k e => by cases e; exact hgB)

theorem markSquare_any (x y : Int) (A : Option Addr) (g off n cap : Nat) (c : Nat → Int) (k0 : Int) (w : World) (hk0 : 0 ≤ k0) (hk1 : k0 ≤ 1000000000) (hn : n ≤ 1048576) (hA : 0 < n → A = some ⟨g, off, none⟩) (ho : Own8 w g off (4 * n) c) (hg : 0 < n → g < w.heap.size) :
    Calls Tryd.prog 19 #[.agg #[.int .i8 x, .int .i8 y, .slice A n cap], .int .i64 k0] w fun e w' => e = .returned (.int .i64 (k0 + 4 * n)) ∧ w.grownBy w' (some g) ∧ Own8 w' g off (4 * n) (mk8 k0) := by
  have ho' : ∀ o : Obj, Own8 (w.alloc o) g off (4 * n) c := fun o => by
    rcases Nat.eq_zero_or_pos n with h0 | h0
    · subst h0; intro j hj; omega
    · exact ho.of_block (Below.heap_alloc w o g (hg h0))
  have Ho := Lib.hid ho'
  clear ho' ho
  go_enter Tryd.func19, Tryd.ntmps19
  go_wp2_with fail
  refine (markSlabS_any A g off n cap c k0 _ hk0 hk1 hn hA (Ho.out _)).mono ?_
  rintro e w1 ⟨rfl, hg1, ho1⟩
  go_wp2
  go_ret
  exact ⟨rfl, (World.grownBy_alloc w _ _).trans hg1, ho1⟩

theorem rowNext0 {w w1 : World} {g : Nat} {t : TypeId} {n : Nat} {f : Nat → Value} (h : w.rowIs g t n f) (hb : Below w.heap.size w w1) : w1.rowIs g t n f := h.of_block (hb.block _ h.lt)
theorem rowNext1 {w w1 : World} {g : Nat} {t : TypeId} {n : Nat} {f : Nat → Value} {o : Obj} (h : w.rowIs g t n f) (hb : Below (w.alloc o).heap.size (w.alloc o) w1) : w1.rowIs g t n f := rowNext0 (h.alloc o) hb
theorem rowNext2 {w w1 : World} {g : Nat} {t : TypeId} {n : Nat} {f : Nat → Value} {o o' : Obj} (h : w.rowIs g t n f) (hb : Below ((w.alloc o).alloc o').heap.size ((w.alloc o).alloc o') w1) : w1.rowIs g t n f := rowNext1 (h.alloc o) hb

/-- block b holds a square's three cells. -/
def Sq (w : World) (b : Nat) (x y : Int) (v : Value) : Prop :=
  b < w.heap.size ∧ w.cell? ⟨b, 0, none⟩ = some (.int .i8 x) ∧ w.cell? ⟨b, 1, none⟩ = some (.int .i8 y) ∧ w.cell? ⟨b, 2, none⟩ = some v
section
variable {w w' : World} {b : Nat} {x y : Int} {v : Value}
theorem Sq.new (w : World) (x y : Int) (v : Value) (t : TypeId) : Sq (w.alloc (.cells #[.int .i8 x, .int .i8 y, v] t)) w.heap.size x y v :=
  ⟨by simp, by simp [go_sem], by simp [go_sem], by simp [go_sem]⟩
theorem Sq.of_block (h : Sq w b x y v) (hs : w.heap.size ≤ w'.heap.size) (e : w'.heap[b]? = w.heap[b]?) : Sq w' b x y v :=
  ⟨Nat.lt_of_lt_of_le h.1 hs, (World.cell?_of_block (w := w) e).trans h.2.1, (World.cell?_of_block (w := w) e).trans h.2.2.1, (World.cell?_of_block (w := w) e).trans h.2.2.2⟩
theorem Sq.alloc (h : Sq w b x y v) (o : Obj) : Sq (w.alloc o) b x y v := h.of_block (by simp) (Below.heap_alloc w o b h.1)
theorem Sq.below (h : Sq w b x y v) (hb : Below w.heap.size w w') : Sq w' b x y v := h.of_block hb.size (hb.block b h.1)
theorem Sq.grown {g : Nat} (h : Sq w b x y v) (hg : w.grownBy w' (some g)) (hne : b ≠ g) : Sq w' b x y v := h.of_block hg.size (hg.block b h.1 (fun e => hne (by injection e)))
end

/-- block b holds a slab's four cells. -/
def Sl (w : World) (b : Nat) (x y z u : Int) : Prop :=
  b < w.heap.size ∧ w.cell? ⟨b, 0, none⟩ = some (.int .i8 x) ∧ w.cell? ⟨b, 1, none⟩ = some (.int .i8 y) ∧ w.cell? ⟨b, 2, none⟩ = some (.int .i8 z) ∧ w.cell? ⟨b, 3, none⟩ = some (.int .i8 u)
section
variable {w w' : World} {b : Nat} {x y z u : Int}
theorem Sl.new (w : World) (x y z u : Int) (t : TypeId) : Sl (w.alloc (.cells #[.int .i8 x, .int .i8 y, .int .i8 z, .int .i8 u] t)) w.heap.size x y z u :=
  ⟨by simp, by simp [go_sem], by simp [go_sem], by simp [go_sem], by simp [go_sem]⟩
theorem Sl.of_block (h : Sl w b x y z u) (hs : w.heap.size ≤ w'.heap.size) (e : w'.heap[b]? = w.heap[b]?) : Sl w' b x y z u :=
  ⟨Nat.lt_of_lt_of_le h.1 hs, (World.cell?_of_block (w := w) e).trans h.2.1, (World.cell?_of_block (w := w) e).trans h.2.2.1, (World.cell?_of_block (w := w) e).trans h.2.2.2.1, (World.cell?_of_block (w := w) e).trans h.2.2.2.2⟩
theorem Sl.alloc (h : Sl w b x y z u) (o : Obj) : Sl (w.alloc o) b x y z u := h.of_block (by simp) (Below.heap_alloc w o b h.1)
theorem Sl.below (h : Sl w b x y z u) (hb : Below w.heap.size w w') : Sl w' b x y z u := h.of_block hb.size (hb.block b h.1)
theorem Sl.grown {g : Nat} (h : Sl w b x y z u) (hg : w.grownBy w' (some g)) (hne : b ≠ g) : Sl w' b x y z u := h.of_block hg.size (hg.block b h.1 (fun e => hne (by injection e)))
end
end Go.Proofs.YtmkcdelfgaogaaaDoor
