/-
  How the arguments of a law that are grounds, or lists of cells, read. Conditions stand at each.
-/
import Derived.Test.YtkggimalkjjnoaaRows
import Derived.Test.YtkggimalkjjnoaaGndM
import Derived.Test.YtkggimalkjjnoaaArgs
import Derived.Test.YtkggimalkjjnoaaSetts
import Derived.OpenShut
import Derived.Lib.SmallJoins
namespace Go.Proofs.Ytkggimalkjjnoaa
open Go Go.ChangeShapes Go.WideShapes Go.ChangeAt Go.RowKit Go.Deep Go.Joins
set_option linter.unusedVariables false
set_option linter.unusedSimpArgs false
set_option maxRecDepth 100000

section
variable {H : Type} {enc : TypeId × Value → H} {w : World}
theorem open_cell {base : Nat} {v : Value} {d : DataW H} {p : List MemPlace} (hv : Value.okWide Try.prog w .any base 79 v) (h : DataW.Trod enc Try.prog w 0 (fun _ => true) true 79 v d p) :
    ∃ x y, v = .agg #[.int .i8 x, .int .i8 y] ∧ (-128 ≤ x ∧ x ≤ 127) ∧ (-128 ≤ y ∧ y ≤ 127) := by
  obtain ⟨c0, c1, y0, y1, m, rfl, _, _, hy0, hy1⟩ := open_agg2 Try.underlying79 (by kernel_rfl) (by kernel_rfl) hv h
  obtain ⟨x, e0, _, wx⟩ := DataW.trod_int Try.underlying22 hy0
  obtain ⟨y, e1, _, wy⟩ := DataW.trod_int Try.underlying22 hy1
  have hx : c0 = .int .i8 x := by simpa using e0
  have hy : c1 = .int .i8 y := by simpa using e1
  subst hx hy
  exact ⟨x, y, rfl, bd8 wx, bd8 wy⟩

theorem open_cells {v : Value} {x : DataW H × List MemPlace} {fuel : Nat} (h : DataW.trod enc Try.prog w 0 (fun _ => true) true fuel 26 [v] = some x) :
    ∃ A n cap c, v = .slice A n cap ∧ n ≤ maxLen ∧ RdK .i8 w w.heap.size A (2 * n) c ∧ ∀ j, -128 ≤ c j ∧ c j ≤ 127 := by
  rcases open_slice_fields Try.underlying26 Try.underlying79 (by kernel_rfl) (by kernel_rfl) h with ⟨hcs, _⟩ | ⟨a, len, cap, m, D, Pl, hcs, _, hl, hm, hmm, _, hi⟩
  · refine ⟨none, 0, 0, fun _ => 0, by simpa using hcs, by simp [maxLen], fun h0 => absurd h0 (by omega), fun _ => (by decide : -128 ≤ (0 : Int) ∧ (0 : Int) ≤ 127)⟩
  · simp only [if_true] at hmm
    subst hmm
    have hcell : ∀ k, k < 2 * len → ∃ z : Int, w.cell? (a.add k) = some (.int .i8 z) ∧ -128 ≤ z ∧ z ≤ 127 := by
      intro k hk
      obtain ⟨ys, n, _, _, _, hf⟩ := hi (k / 2) (by omega)
      have h2 : k % 2 < 2 := Nat.mod_lt _ (by decide)
      have hadd : k / 2 * 2 + k % 2 = k := by omega
      have key : ∀ (f : Field), f.type = 22 → (∃ (v : Value) (y : DataW H × List MemPlace), w.cell? (a.add (k / 2 * 2 + k % 2)) = some v ∧ ys[k % 2]? = some y ∧ DataW.trod enc Try.prog w 0 (fun _ => true) true n f.type [v] = some y) → ∃ z : Int, w.cell? (a.add k) = some (.int .i8 z) ∧ -128 ≤ z ∧ z ≤ 127 := by
        intro f hft hex
        obtain ⟨v, y, hc, _, ht⟩ := hex
        rw [hft] at ht
        obtain ⟨z, e, _, wz⟩ := DataW.trod_int Try.underlying22 ht
        rw [hadd] at hc
        have hv : v = .int .i8 z := by simpa using e
        subst hv
        exact ⟨z, hc, bd8 wz⟩
      have : k % 2 = 0 ∨ k % 2 = 1 := by omega
      rcases this with e | e
      · exact key _ rfl (hf (k % 2) _ (by rw [e]; rfl))
      · exact key _ rfl (hf (k % 2) _ (by rw [e]; rfl))
    refine ⟨some a, len, _, fun k => if hk : k < 2 * len then Classical.choose (hcell k hk) else 0, by simpa using hcs, by omega, fun h0 => ?_, fun j => ?_⟩
    · have h00 := (Classical.choose_spec (hcell 0 h0)).1
      have hs := World.cell?_spot h00
      have hbl := block_lt_of_cell h00
      obtain ⟨b, off, spot⟩ := a
      have hsp : spot = none := by simpa [Addr.add] using hs
      subst hsp
      refine ⟨b, off, rfl, by simpa [Addr.add] using hbl, fun j hj => ?_⟩
      simp only [dif_pos hj]
      rw [← Go.WideShapes.add_plain]
      exact (Classical.choose_spec (hcell j hj)).1
    · by_cases hj : j < 2 * len
      · simp only [dif_pos hj]
        exact (Classical.choose_spec (hcell j hj)).2
      · simp only [dif_neg hj]
        decide

theorem open_cellsV {base : Nat} {v : Value} {d : DataW H} {p : List MemPlace} (hv : Value.okWide Try.prog w .any base 26 v) (h0 : DataW.Trod enc Try.prog w 0 (fun _ => true) true 26 v d p) :
    ∃ A n cap c, v = .slice A n cap ∧ n ≤ maxLen ∧ RdK .i8 w w.heap.size A (2 * n) c ∧ ∀ j, -128 ≤ c j ∧ c j ≤ 127 := by
  obtain ⟨A', n', cap', rfl⟩ := okWide_slice Try.underlying26 hv
  obtain ⟨fuel, h⟩ := h0
  rw [show (Value.slice A' n' cap').cells.toList = [Value.slice A' n' cap'] from rfl] at h
  exact open_cells h

theorem open_ground {base : Nat} {v : Value} {d : DataW H} {p : List MemPlace} (hv : Value.okWide Try.prog w .any base 95 v) (h : DataW.Trod enc Try.prog w 0 (fun _ => true) true 95 v d p) :
    ∃ X Y hh A n cap c, v = .agg (gV X Y hh (.slice A n cap)) ∧ (-128 ≤ X ∧ X ≤ 127) ∧ (-128 ≤ Y ∧ Y ≤ 127) ∧ (∀ p, -32768 ≤ hh p ∧ hh p ≤ 32767) ∧ n ≤ maxLen ∧ RdK .i8 w w.heap.size A (2 * n) c ∧ ∀ j, -128 ≤ c j ∧ c j ≤ 127 := by
  obtain ⟨cs, rfl, hsz⟩ := okWide_struct Try.underlying95 hv
  have hsz84 : cs.size = 84 := hsz.trans (by kernel_rfl)
  obtain ⟨fuel, hf⟩ := h
  obtain ⟨xs, n0, _, _, hlen, hxl, hall⟩ := DataW.trod_struct Try.underlying95 hf
  have hcs : (Value.agg cs).cells.toList = cs.toList := rfl
  rw [hcs] at hall
  have c8 : Try.prog.cellsOf 22 = 1 := by kernel_rfl
  have c16 : Try.prog.cellsOf 91 = 1 := by kernel_rfl
  have c99 : Try.prog.cellsOf 93 = 81 := by kernel_rfl
  have c9 : Try.prog.cellsOf 92 = 9 := by kernel_rfl
  have cS : Try.prog.cellsOf 26 = 1 := by kernel_rfl
  have hx4 : xs.length = 4 := hxl
  have f0 : DataW.trod enc Try.prog w 0 (fun _ => true) true n0 22 ((cs.toList.drop 0).take (Try.prog.cellsOf 22)) = xs[0]? := hall 0 _ rfl
  have f1 : DataW.trod enc Try.prog w 0 (fun _ => true) true n0 22 ((cs.toList.drop 1).take (Try.prog.cellsOf 22)) = xs[1]? := hall 1 _ rfl
  have f2 : DataW.trod enc Try.prog w 0 (fun _ => true) true n0 93 ((cs.toList.drop 2).take (Try.prog.cellsOf 93)) = xs[2]? := hall 2 _ rfl
  have f3 : DataW.trod enc Try.prog w 0 (fun _ => true) true n0 26 ((cs.toList.drop 83).take (Try.prog.cellsOf 26)) = xs[3]? := hall 3 _ rfl
  rw [c8, List.getElem?_eq_getElem (by omega)] at f0 f1
  rw [c99, List.getElem?_eq_getElem (by omega)] at f2
  rw [cS, List.getElem?_eq_getElem (by omega)] at f3
  have one : ∀ (l : List Value) k, (hk : k < l.length) → (l.drop k).take 1 = [l[k]] := fun l k hk => by
    rw [List.drop_eq_getElem_cons hk]
    rfl
  have hl84 : cs.toList.length = 84 := by simpa using hsz84
  rw [one _ _ (by omega)] at f0 f1 f3
  obtain ⟨X, e0, _, wX⟩ := DataW.trod_int Try.underlying22 f0
  obtain ⟨Y, e1, _, wY⟩ := DataW.trod_int Try.underlying22 f1
  obtain ⟨A, n, cap, c, e3, hn, hr, hc⟩ := open_cells f3
  obtain ⟨ys, m, _, _, _, hy9, hrow⟩ := DataW.trod_array Try.underlying93 f2
  rw [c9] at hrow
  have hht : ∀ p, p < 81 → ∃ z : Int, cs[2 + p]? = some (.int .i16 z) ∧ -32768 ≤ z ∧ z ≤ 32767 := fun p hp => by
    have h1 := hrow (p / 9) (by omega)
    rw [List.getElem?_eq_getElem (by omega)] at h1
    obtain ⟨zs, m', _, _, _, hz9, hcol⟩ := DataW.trod_array Try.underlying92 h1
    rw [c16] at hcol
    have h2 := hcol (p % 9) (by omega)
    rw [List.getElem?_eq_getElem (by omega)] at h2
    have hd : ((((((cs.toList.drop 2).take 81).drop (p / 9 * 9)).take 9).drop (p % 9 * 1)).take 1) = [cs.toList[2 + p]'(by omega)] := by
      apply List.ext_getElem?
      intro i
      rcases Nat.eq_zero_or_pos i with h0 | h0
      · subst h0
        simp only [List.getElem?_take, List.getElem?_drop, List.getElem?_cons_zero]
        rw [if_pos (by omega), if_pos (by omega), if_pos (by omega), ← List.getElem?_eq_getElem]
        congr 1
        omega
      · rw [List.getElem?_take, if_neg (by omega), List.getElem?_eq_none (by simp; omega)]
    rw [hd] at h2
    obtain ⟨z, ez, _, wz⟩ := DataW.trod_int Try.underlying91 h2
    refine ⟨z, ?_, bd16 wz⟩
    have : cs.toList[2 + p]'(by omega) = .int .i16 z := by simpa using ez
    rw [← this, Array.getElem_toList, Array.getElem?_eq_getElem]
  refine ⟨X, Y, fun p => if hp : p < 81 then Classical.choose (hht p hp) else 0, A, n, cap, c, ?_, bd8 wX, bd8 wY, fun p => ?_, hn, hr, hc⟩
  · refine congrArg Value.agg (gV_of _ _ _ _ hsz84 ?_ ?_ (fun p hp => ?_) ?_)
    · have : cs.toList[0]'(by omega) = .int .i8 X := by simpa using e0
      rw [← this, Array.getElem_toList, Array.getElem?_eq_getElem]
    · have : cs.toList[1]'(by omega) = .int .i8 Y := by simpa using e1
      rw [← this, Array.getElem_toList, Array.getElem?_eq_getElem]
    · simp only [dif_pos hp]
      exact (Classical.choose_spec (hht p hp)).1
    · rw [← e3, Array.getElem_toList, Array.getElem?_eq_getElem]
  · by_cases hp : p < 81
    · simp only [dif_pos hp]
      exact (Classical.choose_spec (hht p hp)).2
    · simp only [dif_neg hp]
      decide
end
end Go.Proofs.Ytkggimalkjjnoaa
