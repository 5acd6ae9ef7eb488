/-
  How the arguments of a law that are grounds, or lists of cells, read. Conditions stand at each.
-/
import Derived.Test.YtmkcdelfgaogaaaDoorRows
import Derived.Test.YtmkcdelfgaogaaaDoorGndM
import Derived.Test.YtmkcdelfgaogaaaDoorArgs
import Derived.Test.YtmkcdelfgaogaaaDoorSetts
import Derived.OpenShut
import Derived.Lib.SmallJoins
namespace Go.Proofs.YtmkcdelfgaogaaaDoor
open Go Go.ChangeShapes Go.WideShapes Go.ChangeAt Go.RowKit Go.Deep Go.Joins
set_option linter.unusedVariables false
set_option linter.unusedSimpArgs false
set_option maxRecDepth 100000

section
variable {H : Type} {enc : TypeId × Value → H} {w : World}
theorem open_cell {base : Nat} {v : Value} {d : DataW H} {p : List MemPlace} (hv : Value.okWide Tryd.prog w .any base 27 v) (h : DataW.Trod enc Tryd.prog w 0 (fun _ => true) true 27 v d p) :
    ∃ x y, v = .agg #[.int .i8 x, .int .i8 y] ∧ (-128 ≤ x ∧ x ≤ 127) ∧ (-128 ≤ y ∧ y ≤ 127) := by
  obtain ⟨c0, c1, y0, y1, m, rfl, _, _, hy0, hy1⟩ := open_agg2 Tryd.underlying27 (by kernel_rfl) (by kernel_rfl) hv h
  obtain ⟨x, e0, _, wx⟩ := DataW.trod_int Tryd.underlying22 hy0
  obtain ⟨y, e1, _, wy⟩ := DataW.trod_int Tryd.underlying22 hy1
  have hx : c0 = .int .i8 x := by simpa using e0
  have hy : c1 = .int .i8 y := by simpa using e1
  subst hx hy
  exact ⟨x, y, rfl, bd8 wx, bd8 wy⟩

theorem open_cells {v : Value} {x : DataW H × List MemPlace} {fuel : Nat} (h : DataW.trod enc Tryd.prog w 0 (fun _ => true) true fuel 49 [v] = some x) :
    ∃ A n cap c, v = .slice A n cap ∧ n ≤ maxLen ∧ RdK .i8 w w.heap.size A (2 * n) c ∧ ∀ j, -128 ≤ c j ∧ c j ≤ 127 := by
  rcases open_slice_fields Tryd.underlying49 Tryd.underlying27 (by kernel_rfl) (by kernel_rfl) h with ⟨hcs, _⟩ | ⟨a, len, cap, m, D, Pl, hcs, _, hl, hm, hmm, _, hi⟩
  · refine ⟨none, 0, 0, fun _ => 0, by simpa using hcs, by simp [maxLen], fun h0 => absurd h0 (by omega), fun _ => (by decide : -128 ≤ (0 : Int) ∧ (0 : Int) ≤ 127)⟩
  · simp only [if_true] at hmm
    subst hmm
    have hcell : ∀ k, k < 2 * len → ∃ z : Int, w.cell? (a.add k) = some (.int .i8 z) ∧ -128 ≤ z ∧ z ≤ 127 := by
      intro k hk
      obtain ⟨ys, n, _, _, _, hf⟩ := hi (k / 2) (by omega)
      have h2 : k % 2 < 2 := Nat.mod_lt _ (by decide)
      have hadd : k / 2 * 2 + k % 2 = k := by omega
      have key : ∀ (f : Field), f.type = 22 → (∃ (v : Value) (y : DataW H × List MemPlace), w.cell? (a.add (k / 2 * 2 + k % 2)) = some v ∧ ys[k % 2]? = some y ∧ DataW.trod enc Tryd.prog w 0 (fun _ => true) true n f.type [v] = some y) → ∃ z : Int, w.cell? (a.add k) = some (.int .i8 z) ∧ -128 ≤ z ∧ z ≤ 127 := by
        intro f hft hex
        obtain ⟨v, y, hc, _, ht⟩ := hex
        rw [hft] at ht
        obtain ⟨z, e, _, wz⟩ := DataW.trod_int Tryd.underlying22 ht
        rw [hadd] at hc
        have hv : v = .int .i8 z := by simpa using e
        subst hv
        exact ⟨z, hc, bd8 wz⟩
      have : k % 2 = 0 ∨ k % 2 = 1 := by omega
      rcases this with e | e
      · exact key _ rfl (hf (k % 2) _ (by rw [e]; rfl))
      · exact key _ rfl (hf (k % 2) _ (by rw [e]; rfl))
    refine ⟨some a, len, _, fun k => if hk : k < 2 * len then Classical.choose (hcell k hk) else 0, by simpa using hcs, by omega, fun h0 => ?_, fun j => ?_⟩
    · have h00 := (Classical.choose_spec (hcell 0 h0)).1
      have hs := World.cell?_spot h00
      have hbl := block_lt_of_cell h00
      obtain ⟨b, off, spot⟩ := a
      have hsp : spot = none := by simpa [Addr.add] using hs
      subst hsp
      refine ⟨b, off, rfl, by simpa [Addr.add] using hbl, fun j hj => ?_⟩
      simp only [dif_pos hj]
      rw [← Go.WideShapes.add_plain]
      exact (Classical.choose_spec (hcell j hj)).1
    · by_cases hj : j < 2 * len
      · simp only [dif_pos hj]
        exact (Classical.choose_spec (hcell j hj)).2
      · simp only [dif_neg hj]
        decide

theorem open_cellsV {base : Nat} {v : Value} {d : DataW H} {p : List MemPlace} (hv : Value.okWide Tryd.prog w .any base 49 v) (h0 : DataW.Trod enc Tryd.prog w 0 (fun _ => true) true 49 v d p) :
    ∃ A n cap c, v = .slice A n cap ∧ n ≤ maxLen ∧ RdK .i8 w w.heap.size A (2 * n) c ∧ ∀ j, -128 ≤ c j ∧ c j ≤ 127 := by
  obtain ⟨A', n', cap', rfl⟩ := okWide_slice Tryd.underlying49 hv
  obtain ⟨fuel, h⟩ := h0
  rw [show (Value.slice A' n' cap').cells.toList = [Value.slice A' n' cap'] from rfl] at h
  exact open_cells h

end
end Go.Proofs.YtmkcdelfgaogaaaDoor
