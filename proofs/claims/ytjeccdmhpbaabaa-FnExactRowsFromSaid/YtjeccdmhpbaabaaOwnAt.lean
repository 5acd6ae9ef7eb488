/-
  What stays while a call appends to a slice of its own: the blocks between two numbers. No condition.
-/
import Derived.Maps.AppendAt
import Derived.Test.YtjeccdmhpbaabaaRows
import Derived.Test.YtjeccdmhpbaabaaNums
namespace Go.Proofs.Ytjeccdmhpbaabaa
open Go Go.ChangeShapes Go.WideShapes Go.ChangeAt Go.RowKit
set_option linter.unusedVariables false
set_option linter.unusedSimpArgs false

/-- n numbers in a block from lo on, below hi. -/
def RdI (w : World) (lo hi : Nat) (A : Option Addr) (n : Nat) (f : Nat → Int) : Prop :=
  0 < n → ∃ b off, A = some ⟨b, off, none⟩ ∧ lo ≤ b ∧ b < hi ∧ ∀ j, j < n → w.cell? ⟨b, off + j, none⟩ = some (.int .i64 (f j))
/-- the slice's block is none of those from lo on, below hi. -/
def Fresh (lo hi : Nat) (v : Value) : Prop := ∀ k, v.ownBlock = some k → k < lo ∨ hi ≤ k
/-- the blocks from lo on, below hi, are as they were. -/
def Still (lo hi : Nat) (w w' : World) : Prop := ∀ k, lo ≤ k → k < hi → w'.heap[k]? = w.heap[k]?
theorem OwnI.rdI {w : World} {base n cap : Nat} {A : Option Addr} {L : List Int} (h : OwnI w base (.slice A n cap) L) : RdI w base w.heap.size A n (fun j => L.getD j 0) := fun h0 => by
  have hn := h.rd.1
  obtain ⟨A', g, cap', e, h1, h2⟩ := h.has
  injection e with e1 e2 e3
  subst e1
  exact ⟨g, 0, (h1 (by omega)).1, (h1 (by omega)).2.1, (h1 (by omega)).2.2, fun j hj => (h2 j (by omega)).1⟩
theorem RdI.rd {w : World} {lo hi N n : Nat} {A : Option Addr} {f : Nat → Int} (h : RdI w lo hi A n f) (hN : hi ≤ N) : RdK .i64 w N A n f := fun h0 => by
  obtain ⟨b, off, e, _, h2, h3⟩ := h h0
  exact ⟨b, off, e, by omega, h3⟩
theorem RdI.mono {w : World} {lo hi lo' hi' n : Nat} {A : Option Addr} {f : Nat → Int} (h : RdI w lo hi A n f) (h1 : lo' ≤ lo) (h2 : hi ≤ hi') : RdI w lo' hi' A n f := fun h0 => by
  obtain ⟨b, off, e, h3, h4, h5⟩ := h h0
  exact ⟨b, off, e, by omega, by omega, h5⟩
theorem RdI.still {w w' : World} {lo hi n : Nat} {A : Option Addr} {f : Nat → Int} (h : RdI w lo hi A n f) (hk : Still lo hi w w') : RdI w' lo hi A n f := fun h0 => by
  obtain ⟨b, off, e, h1, h2, h3⟩ := h h0
  exact ⟨b, off, e, h1, h2, fun j hj => (World.cell?_of_block (w := w) (hk b h1 h2)).trans (h3 j hj)⟩
theorem RdI.below {w w' : World} {lo hi n B : Nat} {A : Option Addr} {f : Nat → Int} (h : RdI w lo hi A n f) (hb : Below B w w') (hB : hi ≤ B) : RdI w' lo hi A n f :=
  h.still fun k _ hk => hb.block k (by omega)
theorem Still.refl {lo hi : Nat} (w : World) : Still lo hi w w := fun _ _ _ => rfl
theorem Still.below {lo hi B : Nat} {w a b : World} (h : Still lo hi w a) (hb : Below B a b) (hB : hi ≤ B) : Still lo hi w b := fun k h1 h2 => (hb.block k (by omega)).trans (h k h1 h2)
theorem Still.alloc {lo hi : Nat} {w a : World} (h : Still lo hi w a) (hs : hi ≤ a.heap.size) (o : Obj) : Still lo hi w (a.alloc o) := fun k h1 h2 => (Below.heap_alloc a o k (by omega)).trans (h k h1 h2)
theorem Still.grown {lo hi : Nat} {w a b : World} {v : Value} (h : Still lo hi w a) (hg : a.grownBy b v.ownBlock) (hF : Fresh lo hi v) (hs : hi ≤ a.heap.size) : Still lo hi w b := fun k h1 h2 =>
  (hg.block k (by omega) (fun e => by have := hF k e.symm; omega)).trans (h k h1 h2)
theorem Fresh.next {lo hi : Nat} {a : World} {v v' : Value} (hF : Fresh lo hi v) (hat : v'.ownBlock = v.ownBlock ∨ v'.ownBlock = some a.heap.size) (hs : hi ≤ a.heap.size) : Fresh lo hi v' := fun k e => by
  rcases hat with h | h
  · exact hF k (by rw [← h]; exact e)
  · rw [h] at e
    injection e with e
    omega
theorem Fresh.nil (lo hi : Nat) : Fresh lo hi (.slice none 0 0) := fun k e => by cases e
end Go.Proofs.Ytjeccdmhpbaabaa
