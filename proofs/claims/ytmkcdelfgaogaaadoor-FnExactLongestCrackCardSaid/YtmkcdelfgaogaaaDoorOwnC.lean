/-
  Lists of cells that the call owns. Conditions stand at each.
-/
import Derived.Test.YtmkcdelfgaogaaaDoorRows
import Derived.Test.YtmkcdelfgaogaaaDoorBase
import Derived.Test.YtmkcdelfgaogaaaDoorMark
import Derived.Deep.AppendLies
import Derived.Laws.OwnMore
import Derived.Maps.AppendAt
import Derived.Deep.Onto
import Derived.Lib.Hide
namespace Go.Proofs.YtmkcdelfgaogaaaDoor
open Go Go.ChangeShapes Go.WideShapes Go.ChangeAt Go.RowKit
set_option linter.unusedVariables false
set_option linter.unusedSimpArgs false
set_option maxRecDepth 100000
set_option maxHeartbeats 2000000

def cl (W k : Nat) : Nat × Nat := (k % W, k / W)
def cellV (q : Nat × Nat) : List Value := [.int .i8 (q.1 : Int), .int .i8 (q.2 : Int)]
def cellsL (L : List (Nat × Nat)) : List Value := L.flatMap cellV
def allC (W n : Nat) : List (Nat × Nat) := (List.range n).map (cl W)
def openC (W : Nat) (G : Nat → Int) (n : Nat) : List (Nat × Nat) := (allC W n).filter (fun q => G (q.2 * 12 + q.1) == 0)
theorem allC_succ (W n : Nat) : allC W (n + 1) = allC W n ++ [cl W n] := by simp [allC, List.range_succ]
theorem allC_length (W n : Nat) : (allC W n).length = n := by simp [allC]
theorem allC_get (W n i : Nat) (h : i < n) : (allC W n)[i]? = some (cl W i) := by simp [allC, h]
theorem cellsL_append (A B : List (Nat × Nat)) : cellsL (A ++ B) = cellsL A ++ cellsL B := by simp [cellsL]
theorem cellsL_one (q : Nat × Nat) : cellsL [q] = [.int .i8 (q.1 : Int), .int .i8 (q.2 : Int)] := by simp [cellsL, cellV]
theorem cellsL_length : ∀ L : List (Nat × Nat), (cellsL L).length = L.length * 2
  | [] => rfl
  | q :: L => by
    have := cellsL_length L
    show (cellV q ++ cellsL L).length = _
    simp only [List.length_append, this, cellV, List.length_cons, List.length_nil]; omega
theorem cellsL_get : ∀ (L : List (Nat × Nat)) (i : Nat) (q : Nat × Nat), L[i]? = some q → (cellsL L)[i * 2]? = some (.int .i8 (q.1 : Int)) ∧ (cellsL L)[i * 2 + 1]? = some (.int .i8 (q.2 : Int))
  | [], i, q, h => by simp at h
  | p :: L, 0, q, h => by
    simp at h; subst h
    exact ⟨rfl, rfl⟩
  | p :: L, i + 1, q, h => by
    have h' : L[i]? = some q := by simpa using h
    have := cellsL_get L i q h'
    have e : cellsL (p :: L) = .int .i8 (p.1 : Int) :: .int .i8 (p.2 : Int) :: cellsL L := rfl
    rw [e, show (i + 1) * 2 = i * 2 + 1 + 1 by omega, show i * 2 + 1 + 1 + 1 = (i * 2 + 1) + 1 + 1 by omega]
    simpa using this
theorem openC_succ_yes {W n : Nat} {G : Nat → Int} (h : G ((cl W n).2 * 12 + (cl W n).1) = 0) : openC W G (n + 1) = openC W G n ++ [cl W n] := by
  unfold openC
  rw [allC_succ, List.filter_append]
  simp [h]
theorem openC_succ_no {W n : Nat} {G : Nat → Int} (h : G ((cl W n).2 * 12 + (cl W n).1) ≠ 0) : openC W G (n + 1) = openC W G n := by
  unfold openC
  rw [allC_succ, List.filter_append]
  simp [h]
theorem openC_length (W : Nat) (G : Nat → Int) (n : Nat) : (openC W G n).length ≤ n := by
  unfold openC
  exact Nat.le_trans (List.length_filter_le _ _) (by rw [allC_length]; exact Nat.le_refl _)
theorem cl_eq {W y x : Nat} (hx : x < W) : cl W (W * y + x) = (x, y) := by
  unfold cl
  rw [Nat.mul_add_mod, Nat.mod_eq_of_lt hx, Nat.mul_add_div (by omega), Nat.div_eq_of_lt hx]; rfl
theorem cl_lt {W H k : Nat} (hW : W ≤ 12) (hH : H ≤ 12) (h : k < W * H) : (cl W k).1 < W ∧ (cl W k).2 < H := by
  have h0 : 0 < W := by
    rcases Nat.eq_zero_or_pos W with e | e
    · subst e; simp at h
    · exact e
  exact ⟨Nat.mod_lt _ h0, Nat.div_lt_of_lt_mul h⟩
theorem mul12 {W H : Nat} (hW : W ≤ 12) (hH : H ≤ 12) : W * H ≤ 144 := Nat.mul_le_mul hW hH
theorem new_cells (W : World) (cs : Array Value) (t : TypeId) : ∀ j u, cs.toList[j]? = some u → (W.alloc (.cells cs t)).cell? ((⟨W.heap.size, 0, none⟩ : Addr).add j) = some u := by
  intro j u h
  have e : ((⟨W.heap.size, 0, none⟩ : Addr).add j) = ⟨W.heap.size, j, none⟩ := by
    unfold Addr.add
    by_cases h0 : j = 0
    · rw [if_pos h0, h0]
    · rw [if_neg h0]; simp
  rw [e, World.cell?_alloc_at _ _ _ _ rfl]
  simpa using h
theorem one_ints {a b : Int} : ∀ u ∈ [Value.int .i8 a, Value.int .i8 b], u.oneCell' = true := by
  intro u hu
  simp at hu
  rcases hu with rfl | rfl <;> rfl
theorem infoCell : (Tryd.prog.info? 35).map (fun i => (i.zero, i.size, i.bytes)) = some (some (.agg #[.int .i8 0, .int .i8 0]), 2, 2) := by kernel_rfl
theorem own_some {w : World} {base e size n : Nat} {v : Value} {xs : List Value} (h : w.ownsRow base e size v n xs) (hn : 0 < n) : ∃ g cap, v = .slice (some ⟨g, 0, none⟩) n cap ∧ base ≤ g ∧ g < w.heap.size := h.form hn
/-- the list of cells v, of the call's own. -/
def OwnC (w : World) (base : Nat) (v : Value) (L : List (Nat × Nat)) : Prop := w.ownsRow base 35 2 v L.length (cellsL L)
theorem OwnC.below {w w' : World} {base : Nat} {v : Value} {L : List (Nat × Nat)} (h : OwnC w base v L) (hb : Below w.heap.size w w') : OwnC w' base v L := by
  refine ⟨h.1, h.2.imp id ?_⟩
  rintro ⟨g, cap, cur, h1, h2, h3, h4⟩
  exact ⟨g, cap, cur, h1, h2, (hb.block g (Array.getElem?_eq_some_iff.1 h3).1).trans h3, h4⟩
theorem OwnC.alloc {w : World} {base : Nat} {v : Value} {L : List (Nat × Nat)} (h : OwnC w base v L) (o : Obj) : OwnC (w.alloc o) base v L := World.ownsRow.alloc h o

theorem OwnC.get {w : World} {base g n cap : Nat} {L : List (Nat × Nat)} (h : OwnC w base (.slice (some ⟨g, 0, none⟩) n cap) L) (hn : L.length = n) {i : Nat} {q : Nat × Nat} (hq : L[i]? = some q) :
    w.cell? ⟨g, i * 2, none⟩ = some (.int .i8 (q.1 : Int)) ∧ w.cell? ⟨g, i * 2 + 1, none⟩ = some (.int .i8 (q.2 : Int)) := by
  subst hn
  have hi : i < L.length := (List.getElem?_eq_some_iff.1 hq).1
  have hg := cellsL_get L i q hq
  exact ⟨(World.ownsRow.cellAt h (i * 2) (by omega)).trans hg.1, (World.ownsRow.cellAt h (i * 2 + 1) (by omega)).trans hg.2⟩

def AllPost (W H : Nat) (w : World) (e : Ending) (w' : World) : Prop :=
  Below w.heap.size w w' ∧ ∃ v, e = .returned v ∧ OwnC w' w.heap.size v (allC W (W * H))

end Go.Proofs.YtmkcdelfgaogaaaDoor
