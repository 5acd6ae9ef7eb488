/-
  Slices of equal cells that a call has made: what is read, what is owned, what is kept. Conditions stand at each.
-/
import Derived.Test.YtmkcdelfgaogaaaDoorRows
import Derived.Test.YtmkcdelfgaogaaaDoorMark
import Derived.Test.YtmkcdelfgaogaaaDoorLies
import Derived.Laws.OwnMore
namespace Go.Proofs.YtmkcdelfgaogaaaDoor
open Go Go.ChangeShapes Go.WideShapes Go.ChangeAt Go.RowKit
set_option linter.unusedVariables false
set_option linter.unusedSimpArgs false

/-- n cells of block g from off on hold ints of one kind, and may be written. -/
def OwnK (kd : IntKind) (w : World) (g off n : Nat) (f : Nat → Int) : Prop :=
  ∀ j, j < n → w.cell? ⟨g, off + j, none⟩ = some (.int kd (f j)) ∧ w.frozen? ⟨g, off + j, none⟩ = false
def RdK (kd : IntKind) (w : World) (B : Nat) (A : Option Addr) (n : Nat) (c : Nat → Int) : Prop :=
  0 < n → ∃ b off, A = some ⟨b, off, none⟩ ∧ b < B ∧ ∀ j, j < n → w.cell? ⟨b, off + j, none⟩ = some (.int kd (c j))
section
variable {kd : IntKind} {w w' : World} {g off n B : Nat} {f f' : Nat → Int} {A : Option Addr}
theorem OwnK.congr (h : OwnK kd w g off n f) (e : ∀ j, j < n → f j = f' j) : OwnK kd w g off n f' := fun j hj => by rw [← e j hj]; exact h j hj
theorem OwnK.set (h : OwnK kd w g off n f) {i : Nat} (hi : i < n) (v : Int) : OwnK kd (w.setCell ⟨g, off + i, none⟩ (.int kd v)) g off n (fun j => if j = i then v else f j) := fun j hj => by
  refine ⟨?_, by rw [World.frozen?_setCell]; exact (h j hj).2⟩
  by_cases e : j = i
  · subst e
    simp only [if_true]
    exact World.cell?_setCell_same' _ _ _ (by rw [(h j hj).1]; rfl)
  · simp only [if_neg e]
    rw [World.cell?_setCell_other w _ _ _ (fun he => e (by injection he; omega))]
    exact (h j hj).1
theorem OwnK.of_block (h : OwnK kd w g off n f) (e : w'.heap[g]? = w.heap[g]?) : OwnK kd w' g off n f := fun j hj =>
  ⟨(World.cell?_of_block (w := w) e).trans (h j hj).1, (World.frozen?_of_block (w := w) e).trans (h j hj).2⟩
theorem OwnK.rd (h : OwnK kd w g off n f) (hA : 0 < n → A = some ⟨g, off, none⟩ ∧ g < B) : RdK kd w B A n f := fun h0 => ⟨g, off, (hA h0).1, (hA h0).2, fun j hj => (h j hj).1⟩
theorem RdK.below {c : Nat → Int} (h : RdK kd w B A n c) (hb : Below B w w') : RdK kd w' B A n c := fun h0 => by
  obtain ⟨b, off, e, hl, hc⟩ := h h0
  exact ⟨b, off, e, hl, fun j hj => (hb.cell (p := ⟨b, off + j, none⟩) hl).trans (hc j hj)⟩
end
def mkK (kd : IntKind) (k0 : Int) (j : Nat) : Int := kd.wrap (k0 + j)
/-- the block that marking writes. -/
def rowOf (n g : Nat) : Option Nat := if 0 < n then some g else none
theorem rowOf_pos {n g : Nat} (h : 0 < n) : rowOf n g = some g := if_pos h
theorem rowOf_ne {n g b : Nat} (h : 0 < n → b ≠ g) : some b ≠ rowOf n g := by
  unfold rowOf
  by_cases hn : 0 < n
  · rw [if_pos hn]; exact fun e => h hn (by injection e)
  · rw [if_neg hn]; exact fun e => by cases e
theorem below_rowOf {w a b : World} {n g B : Nat} (h : Below B w a) (hg : a.grownBy b (rowOf n g)) (hB : B ≤ a.heap.size) (hgB : 0 < n → B ≤ g) : Below B w b :=
  h.grown hg hB (fun k e => by
    unfold rowOf at e
    by_cases hn : 0 < n
    · rw [if_pos hn] at e; cases e; exact hgB hn
    · rw [if_neg hn] at e; cases e)
theorem blockG {a b : World} {n g k : Nat} (hg : a.grownBy b (rowOf n g)) (hk : k < a.heap.size) (h : 0 < n → k ≠ g) : b.heap[k]? = a.heap[k]? := hg.block k hk (rowOf_ne h)
/-- a slice of n elements, sz cells each, that was made at base or later. -/
def SliceOf (kd : IntKind) (sz : Nat) (w : World) (base : Nat) (v : Value) (n : Nat) (f : Nat → Int) (A : Option Addr) (g cap : Nat) : Prop :=
  v = .slice A n cap ∧ (0 < n → A = some ⟨g, 0, none⟩ ∧ base ≤ g ∧ g < w.heap.size) ∧ OwnK kd w g 0 (sz * n) f
def HasSlice (kd : IntKind) (sz : Nat) (w : World) (base : Nat) (v : Value) (n : Nat) (f : Nat → Int) : Prop := ∃ A g cap, SliceOf kd sz w base v n f A g cap
theorem SliceOf.kept {kd : IntKind} {sz : Nat} {w w' : World} {base : Nat} {v : Value} {n : Nat} {f : Nat → Int} {A : Option Addr} {g cap : Nat} (h : SliceOf kd sz w base v n f A g cap) (hs : w.heap.size ≤ w'.heap.size)
    (e : 0 < n → w'.heap[g]? = w.heap[g]?) : SliceOf kd sz w' base v n f A g cap := by
  refine ⟨h.1, fun h0 => ⟨(h.2.1 h0).1, (h.2.1 h0).2.1, Nat.lt_of_lt_of_le (h.2.1 h0).2.2 hs⟩, ?_⟩
  by_cases h0 : 0 < n
  · exact h.2.2.of_block (e h0)
  · intro j hj
    rw [show n = 0 by omega] at hj
    simp at hj
theorem SliceOf.below {kd : IntKind} {sz : Nat} {w w' : World} {base : Nat} {v : Value} {n : Nat} {f : Nat → Int} {A : Option Addr} {g cap : Nat} (h : SliceOf kd sz w base v n f A g cap) (hb : Below w.heap.size w w') : SliceOf kd sz w' base v n f A g cap :=
  h.kept hb.size (fun h0 => hb.block g (h.2.1 h0).2.2)
theorem SliceOf.alloc {kd : IntKind} {sz : Nat} {w : World} {base : Nat} {v : Value} {n : Nat} {f : Nat → Int} {A : Option Addr} {g cap : Nat} (h : SliceOf kd sz w base v n f A g cap) (o : Obj) : SliceOf kd sz (w.alloc o) base v n f A g cap :=
  h.kept (by simp) (fun h0 => Below.heap_alloc w o g (h.2.1 h0).2.2)
theorem SliceOf.marked {kd : IntKind} {sz : Nat} {w w' : World} {base : Nat} {v : Value} {n : Nat} {f f' : Nat → Int} {A : Option Addr} {g cap : Nat} (h : SliceOf kd sz w base v n f A g cap) (hs : w.heap.size ≤ w'.heap.size)
    (ho : OwnK kd w' g 0 (sz * n) f') : SliceOf kd sz w' base v n f' A g cap :=
  ⟨h.1, fun h0 => ⟨(h.2.1 h0).1, (h.2.1 h0).2.1, Nat.lt_of_lt_of_le (h.2.1 h0).2.2 hs⟩, ho⟩
end Go.Proofs.YtmkcdelfgaogaaaDoor
