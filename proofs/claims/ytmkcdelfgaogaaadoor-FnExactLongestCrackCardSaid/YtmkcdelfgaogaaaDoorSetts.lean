/-
  Slices of setts as arguments of a law: opened, copied, compared, marked. Conditions stand at each.
-/
import Derived.Test.YtmkcdelfgaogaaaDoorRows
import Derived.Test.YtmkcdelfgaogaaaDoorNums
namespace Go.Proofs.YtmkcdelfgaogaaaDoor
open Go Go.ChangeShapes Go.WideShapes Go.ChangeAt Go.RowKit Go.Deep Go.Joins
set_option linter.unusedVariables false
set_option linter.unusedSimpArgs false
set_option maxRecDepth 100000
set_option maxHeartbeats 2000000

theorem bd16 {n : Int} (h : (Lit.int .i16 n).wf = true) : -32768 ≤ n ∧ n ≤ 32767 := by
  have hmin : IntKind.i16.min = -32768 := rfl
  have hmax : IntKind.i16.max = 32767 := rfl
  simp only [Lit.wf, Bool.and_eq_true, decide_eq_true_eq] at h
  omega

/-- n setts of block b from off on. -/
def RdS (w : World) (B : Nat) (A : Option Addr) (n : Nat) (c d : Nat → Int) : Prop :=
  0 < n → ∃ b off, A = some ⟨b, off, none⟩ ∧ b < B ∧ ∀ j, j < n → w.cell? ⟨b, off + j * 2, none⟩ = some (.int .i8 (c j)) ∧ w.cell? ⟨b, off + j * 2 + 1, none⟩ = some (.int .i16 (d j))
def OwnS (w : World) (g n : Nat) (c d : Nat → Int) : Prop :=
  ∀ j, j < n → (w.cell? ⟨g, j * 2, none⟩ = some (.int .i8 (c j)) ∧ w.cell? ⟨g, j * 2 + 1, none⟩ = some (.int .i16 (d j))) ∧ (w.frozen? ⟨g, j * 2, none⟩ = false ∧ w.frozen? ⟨g, j * 2 + 1, none⟩ = false)
def As (w : World) (g n : Nat) (c d : Nat → Int) : Prop := g < w.heap.size ∧ OwnS w g n c d
section
variable {w w' : World} {B B' g n : Nat} {A : Option Addr} {c d c' d' : Nat → Int}
theorem RdS.below (h : RdS w B A n c d) (hb : Below B w w') : RdS w' B A n c d := fun h0 => by
  obtain ⟨b, off, e, hl, hc⟩ := h h0
  exact ⟨b, off, e, hl, fun j hj => ⟨(hb.cell (p := ⟨b, off + j * 2, none⟩) hl).trans (hc j hj).1, (hb.cell (p := ⟨b, off + j * 2 + 1, none⟩) hl).trans (hc j hj).2⟩⟩
theorem RdS.mono (h : RdS w B A n c d) (hb : B ≤ B') : RdS w B' A n c d := fun h0 => by
  obtain ⟨b, off, e, hl, hc⟩ := h h0
  exact ⟨b, off, e, by omega, hc⟩
theorem RdS.at (h : RdS w B A n c d) {k : Nat} (hk : k < n) : ∃ b off, A = some ⟨b, off, none⟩ ∧ b < B ∧ w.cell? ⟨b, off + k * 2, none⟩ = some (.int .i8 (c k)) ∧ w.cell? ⟨b, off + k * 2 + 1, none⟩ = some (.int .i16 (d k)) := by
  obtain ⟨b, off, e, hl, hc⟩ := h (by omega)
  exact ⟨b, off, e, hl, hc k hk⟩
theorem OwnS.congr (h : OwnS w g n c d) (e : ∀ j, j < n → c j = c' j ∧ d j = d' j) : OwnS w g n c' d' := fun j hj => by
  obtain ⟨e1, e2⟩ := e j hj
  rw [← e1, ← e2]; exact h j hj
theorem OwnS.of_block (h : OwnS w g n c d) (e : w'.heap[g]? = w.heap[g]?) : OwnS w' g n c d := fun j hj =>
  ⟨⟨(World.cell?_of_block (w := w) e).trans (h j hj).1.1, (World.cell?_of_block (w := w) e).trans (h j hj).1.2⟩, ⟨(World.frozen?_of_block (w := w) e).trans (h j hj).2.1, (World.frozen?_of_block (w := w) e).trans (h j hj).2.2⟩⟩
theorem OwnS.set (h : OwnS w g n c d) {i : Nat} (hi : i < n) (u v : Int) :
    OwnS ((w.setCell ⟨g, i * 2, none⟩ (.int .i8 u)).setCell ⟨g, i * 2 + 1, none⟩ (.int .i16 v)) g n (fun j => if j = i then u else c j) (fun j => if j = i then v else d j) := fun j hj => by
  obtain ⟨⟨h1, h2⟩, h3, h4⟩ := h j hj
  refine ⟨?_, by rw [World.frozen?_setCell, World.frozen?_setCell]; exact h3, by rw [World.frozen?_setCell, World.frozen?_setCell]; exact h4⟩
  by_cases e : j = i
  · subst e
    simp only [if_true]
    refine ⟨?_, ?_⟩
    · rw [World.cell?_setCell_other _ _ _ _ (fun he => by injection he; omega)]
      exact World.cell?_setCell_same' _ _ _ (by rw [h1]; rfl)
    · exact World.cell?_setCell_same' _ _ _ (by rw [World.cell?_setCell_other _ _ _ _ (fun he => by injection he; omega), h2]; rfl)
  · simp only [if_neg e]
    refine ⟨?_, ?_⟩
    · rw [World.cell?_setCell_other _ _ _ _ (fun he => by injection he; omega), World.cell?_setCell_other _ _ _ _ (fun he => e (by injection he; omega))]
      exact h1
    · rw [World.cell?_setCell_other _ _ _ _ (fun he => e (by injection he; omega)), World.cell?_setCell_other _ _ _ _ (fun he => by injection he; omega)]
      exact h2
theorem As.kept (h : As w g n c d) (hs : w.heap.size ≤ w'.heap.size) (e : w'.heap[g]? = w.heap[g]?) : As w' g n c d := ⟨Nat.lt_of_lt_of_le h.1 hs, h.2.of_block e⟩
theorem As.below (h : As w g n c d) (hb : Below w.heap.size w w') : As w' g n c d := h.kept hb.size (hb.block g h.1)
theorem As.alloc (h : As w g n c d) (o : Obj) : As (w.alloc o) g n c d := h.kept (by simp) (Below.heap_alloc w o g h.1)
theorem As.rd (h : As w g n c d) : RdS w w.heap.size (some ⟨g, 0, none⟩) n c d := fun _ => ⟨g, 0, rfl, h.1, fun j hj => by rw [Nat.zero_add]; exact (h.2 j hj).1⟩
end

section
variable {H : Type} {enc : TypeId × Value → H} {w : World}
end

theorem rowIs_made2 (w : World) (z u : Value) (n : Nat) (t : TypeId) : ∀ j, j * 2 + 1 < n → ((w.alloc (.cells (madeCells #[z, u] n) t)).cell? ⟨w.heap.size, j * 2, none⟩ = some z ∧ (w.alloc (.cells (madeCells #[z, u] n) t)).cell? ⟨w.heap.size, j * 2 + 1, none⟩ = some u) ∧
    ((w.alloc (.cells (madeCells #[z, u] n) t)).frozen? ⟨w.heap.size, j * 2, none⟩ = false ∧ (w.alloc (.cells (madeCells #[z, u] n) t)).frozen? ⟨w.heap.size, j * 2 + 1, none⟩ = false) := by
  have hr : (w.alloc (.cells (madeCells #[z, u] n) t)).rowIs w.heap.size t n (fun j => if j % 2 = 0 then z else u) := by
    refine World.rowIs_alloc w _ t _ ?_ |> fun h => by rwa [size_madeCells] at h
    intro i hi
    rw [size_madeCells] at hi
    have : i % 2 = 0 ∨ i % 2 = 1 := by omega
    rcases this with h | h <;> simp [madeCells, hi, h]
  intro j hj
  have h0 := hr.cell (i := j * 2) (by omega)
  have h1 := hr.cell (i := j * 2 + 1) (by omega)
  rw [if_pos (by omega)] at h0
  rw [if_neg (by omega)] at h1
  exact ⟨⟨h0, h1⟩, hr.frozen _, hr.frozen _⟩

end Go.Proofs.YtmkcdelfgaogaaaDoor
