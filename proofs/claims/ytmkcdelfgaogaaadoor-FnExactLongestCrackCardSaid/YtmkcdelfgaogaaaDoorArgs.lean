/-
  How the arguments of a law that are squares, slabs or cells read: as int8s in memory. Conditions stand at each.
-/
import Derived.Test.YtmkcdelfgaogaaaDoorRows
import Derived.Test.YtmkcdelfgaogaaaDoorBase
import Derived.Deep.Slices
import Derived.Deep.Fields
import Derived.Lib.SmallJoins
namespace Go.Proofs.YtmkcdelfgaogaaaDoor
open Go Go.ChangeShapes Go.WideShapes Go.ChangeAt Go.RowKit Go.Deep Go.Joins
set_option linter.unusedVariables false
set_option maxRecDepth 100000

section
variable {H : Type} {enc : TypeId × Value → H} {P : Program} {w : World} {base : Nat} {spare : Nat → Bool} {held : Bool}
theorem open_slice_fields {t e : TypeId} {fs : Array Field} {fuel : Nat} {cs : List Value} {x : DataW H × List MemPlace} (ht : P.underlying t = some (.slice e)) (he : P.underlying e = some (.struct fs))
    (hone : oneCellFields P fs = true) (hC : P.cellsOf e = fs.size) (h : DataW.trod enc P w base spare held fuel t cs = some x) :
    (cs = [.slice none 0 0] ∧ x = (.nil, [])) ∨
    ∃ (a : Addr) (len cap m : Nat) (D : Nat → DataW H) (Pl : Nat → List MemPlace), cs = [.slice (some a) len cap] ∧ base ≤ a.block ∧ len ≤ cap ∧ cap ≤ maxLen ∧ m = (if spare a.block then cap else len) ∧
      x = (.slice ((List.range len).map D) ((List.range (m - len)).map fun j => D (len + j)), MemPlace.row a (m * fs.size) ++ (List.range m).flatMap Pl) ∧
      ∀ i, i < m → ∃ (ys : List (DataW H × List MemPlace)) (n : Nat), D i = .agg (ys.map (·.1)) ∧ Pl i = ys.flatMap (·.2) ∧ ys.length = fs.size ∧
        ∀ (j : Nat) (f : Field), fs[j]? = some f → ∃ (v : Value) (y : DataW H × List MemPlace), w.cell? (a.add (i * fs.size + j)) = some v ∧ ys[j]? = some y ∧ DataW.trod enc P w base spare held n f.type [v] = some y := by
  rcases open_slice ht h with h0 | ⟨a, len, cap, m, n, D, Pl, hcs, hb, hl, hm, hmm, hx, hi⟩
  · exact .inl h0
  · refine .inr ⟨a, len, cap, m, D, Pl, hcs, hb, hl, hm, hmm, by rw [hC] at hx; exact hx, fun i him => ?_⟩
    obtain ⟨cs', hc, ht'⟩ := hi i him
    rw [hC] at hc
    obtain ⟨ys, n', hn', hy, hlen, hyl, hf⟩ := DataW.trod_struct he ht'
    obtain ⟨_, hcl, hat⟩ := World.cells?_some hc
    simp only [Prod.mk.injEq] at hy
    refine ⟨ys, n', hy.1, hy.2, hyl, fun j f hj => ?_⟩
    obtain ⟨ho, hk⟩ := hone_of hone j f hj
    have hjl : j < fs.size := (Array.getElem?_eq_some_iff.1 hj).1
    have hcell := hat j hjl
    have hv : cs'[j]? = some (cs'[j]'(by omega)) := List.getElem?_eq_getElem (by omega)
    have h1 := hf j f hj
    rw [ho, hk] at h1
    have hone' : (cs'.drop j).take 1 = [cs'[j]'(by omega)] := by
      rw [List.drop_eq_getElem_cons (by omega)]
      rfl
    rw [hone'] at h1
    have hys : ys[j]? = some (ys[j]'(by omega)) := List.getElem?_eq_getElem (by omega)
    refine ⟨_, _, ?_, hys, h1.trans hys⟩
    rw [← Go.Deep.add_add, hcell, hv]
end

theorem bd8 {n : Int} (h : (Lit.int .i8 n).wf = true) : -128 ≤ n ∧ n ≤ 127 := by
  have hmin : IntKind.i8.min = -128 := rfl
  have hmax : IntKind.i8.max = 127 := rfl
  simp only [Lit.wf, Bool.and_eq_true, decide_eq_true_eq] at h
  omega

section
variable {H : Type} {enc : TypeId × Value → H} {w : World}

theorem open_slabs {v : Value} {x : DataW H × List MemPlace} {fuel : Nat} (h : DataW.trod enc Tryd.prog w 0 (fun _ => true) true fuel 23 [v] = some x) :
    ∃ A n cap c, v = .slice A n cap ∧ n ≤ maxLen ∧ Rd8 w w.heap.size A (4 * n) c ∧ ∀ j, -128 ≤ c j ∧ c j ≤ 127 := by
  rcases open_slice_fields Tryd.underlying23 Tryd.underlying107 (by kernel_rfl) (by kernel_rfl) h with ⟨hcs, _⟩ | ⟨a, len, cap, m, D, Pl, hcs, _, hl, hm, hmm, _, hi⟩
  · refine ⟨none, 0, 0, fun _ => 0, by simpa using hcs, by simp [maxLen], fun h0 => absurd h0 (by omega), fun _ => (by decide : -128 ≤ (0 : Int) ∧ (0 : Int) ≤ 127)⟩
  · simp only [if_true] at hmm
    subst hmm
    have hcell : ∀ k, k < 4 * len → ∃ z : Int, w.cell? (a.add k) = some (.int .i8 z) ∧ -128 ≤ z ∧ z ≤ 127 := by
      intro k hk
      obtain ⟨ys, n, _, _, _, hf⟩ := hi (k / 4) (by omega)
      have h4 : k % 4 < 4 := Nat.mod_lt _ (by decide)
      have hadd : k / 4 * 4 + k % 4 = k := by omega
      have key : ∀ (f : Field), f.type = 22 → (∃ (v : Value) (y : DataW H × List MemPlace), w.cell? (a.add (k / 4 * 4 + k % 4)) = some v ∧ ys[k % 4]? = some y ∧ DataW.trod enc Tryd.prog w 0 (fun _ => true) true n f.type [v] = some y) → ∃ z : Int, w.cell? (a.add k) = some (.int .i8 z) ∧ -128 ≤ z ∧ z ≤ 127 := by
        intro f hft hex
        obtain ⟨v, y, hc, _, ht⟩ := hex
        rw [hft] at ht
        obtain ⟨z, e, _, wz⟩ := DataW.trod_int Tryd.underlying22 ht
        rw [hadd] at hc
        have hv : v = .int .i8 z := by simpa using e
        subst hv
        exact ⟨z, hc, bd8 wz⟩
      have : k % 4 = 0 ∨ k % 4 = 1 ∨ k % 4 = 2 ∨ k % 4 = 3 := by omega
      rcases this with e | e | e | e
      · exact key _ rfl (hf (k % 4) _ (by rw [e]; rfl))
      · exact key _ rfl (hf (k % 4) _ (by rw [e]; rfl))
      · exact key _ rfl (hf (k % 4) _ (by rw [e]; rfl))
      · exact key _ rfl (hf (k % 4) _ (by rw [e]; rfl))
    refine ⟨some a, len, _, fun k => if hk : k < 4 * len then Classical.choose (hcell k hk) else 0, by simpa using hcs, by omega, fun h0 => ?_, fun j => ?_⟩
    · have h00 := (Classical.choose_spec (hcell 0 h0)).1
      have hs := World.cell?_spot h00
      have hbl := block_lt_of_cell h00
      obtain ⟨b, off, spot⟩ := a
      have hsp : spot = none := by simpa [Addr.add] using hs
      subst hsp
      refine ⟨b, off, rfl, by simpa [Addr.add] using hbl, fun j hj => ?_⟩
      simp only [dif_pos hj]
      rw [← Go.WideShapes.add_plain]
      exact (Classical.choose_spec (hcell j hj)).1
    · by_cases hj : j < 4 * len
      · simp only [dif_pos hj]
        exact (Classical.choose_spec (hcell j hj)).2
      · simp only [dif_neg hj]
        decide

theorem open_square {base : Nat} {v : Value} {d : DataW H} {p : List MemPlace} (hv : Value.okWide Tryd.prog w .any base 25 v) (h : DataW.Trod enc Tryd.prog w 0 (fun _ => true) true 25 v d p) :
    ∃ x y A n cap c, v = .agg #[.int .i8 x, .int .i8 y, .slice A n cap] ∧ (-128 ≤ x ∧ x ≤ 127) ∧ (-128 ≤ y ∧ y ≤ 127) ∧ n ≤ maxLen ∧ Rd8 w w.heap.size A (4 * n) c ∧ ∀ j, -128 ≤ c j ∧ c j ≤ 127 := by
  obtain ⟨c0, c1, c2, y0, y1, y2, m, rfl, _, _, hy0, hy1, hy2⟩ := open_agg3 Tryd.underlying25 (by kernel_rfl) (by kernel_rfl) hv h
  obtain ⟨x, e0, _, wx⟩ := DataW.trod_int Tryd.underlying22 hy0
  obtain ⟨y, e1, _, wy⟩ := DataW.trod_int Tryd.underlying22 hy1
  obtain ⟨A, n, cap, c, rfl, hn, hr, hc⟩ := open_slabs hy2
  have hx : c0 = .int .i8 x := by simpa using e0
  have hy : c1 = .int .i8 y := by simpa using e1
  subst hx hy
  exact ⟨x, y, A, n, cap, c, rfl, bd8 wx, bd8 wy, hn, hr, hc⟩
end
end Go.Proofs.YtmkcdelfgaogaaaDoor
