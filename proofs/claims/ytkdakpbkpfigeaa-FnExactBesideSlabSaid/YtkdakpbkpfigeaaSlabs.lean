/-
  Lists of slabs that a call has made: slices.Clone and slices.Delete over slabs, and what an owned list holds. Conditions stand at each.
-/
import Derived.Test.YtkdakpbkpfigeaaRows
import Derived.Test.YtkdakpbkpfigeaaRes
import Derived.Test.YtkdakpbkpfigeaaWhole
import Derived.Maps.AppendAt
import Derived.Deep.RegionLaw
import Derived.Deep.Upon
import Derived.Lib.SliceRun
import Derived.Shelf.RegionOpenPlain
import Derived.Lib.Walk
namespace Go.Proofs.Ytkdakpbkpfigeaa
open Go Go.ChangeShapes Go.WideShapes Go.ChangeAt Go.RowKit
set_option linter.unusedVariables false
set_option linter.unusedSimpArgs false
set_option maxRecDepth 100000
set_option maxHeartbeats 2000000

/-- the cells that hold the first m numbers. -/
def rowV (f : Nat → Int) (m : Nat) : List Value := (List.range m).map (fun j => .int .i8 (f j))
theorem rowV_length (f : Nat → Int) (m : Nat) : (rowV f m).length = m := by simp [rowV]
theorem rowV_get {f : Nat → Int} {m j : Nat} (h : j < m) : (rowV f m)[j]? = some (.int .i8 (f j)) := by simp [rowV, h]
theorem rowV_of {f : Nat → Int} {m j : Nat} {u : Value} (h : (rowV f m)[j]? = some u) : j < m ∧ u = .int .i8 (f j) := by
  have hj : j < m := by have := (List.getElem?_eq_some_iff.1 h).1; rwa [rowV_length] at this
  rw [rowV_get hj] at h
  exact ⟨hj, by injection h with h; exact h.symm⟩
theorem rowV_one {f : Nat → Int} {m : Nat} : ∀ u ∈ rowV f m, u.oneCell' = true := by
  intro u hu
  obtain ⟨x, _, rfl⟩ := List.mem_map.1 hu
  rfl

theorem own_has {w : World} {base : Nat} {v : Value} {n : Nat} {L : List Value} {f : Nat → Int} (h : w.ownsRow base 110 4 v n L) (hL : ∀ j, j < 4 * n → L[j]? = some (.int .i8 (f j))) : HasSlice .i8 4 w base v n f := by
  rcases h.2 with ⟨rfl, h0⟩ | ⟨g, cap, cur, rfl, hb, hg, h1, h2, h3, h4⟩
  · refine ⟨none, 0, 0, by rw [h0], fun h => by omega, fun j hj => by rw [h0] at hj; simp at hj⟩
  · refine ⟨some ⟨g, 0, none⟩, g, cap, rfl, fun _ => ⟨rfl, hb, (Array.getElem?_eq_some_iff.1 hg).1⟩, fun j hj => ?_⟩
    rw [Nat.zero_add]
    refine ⟨?_, World.ownsRow.frozenAt h j⟩
    have hlen := h.1
    exact (World.ownsRow.cellAt h j (by omega)).trans (hL j hj)

/-- slices.Clone of a row of slabs. -/
theorem clone_any (g n cap : Nat) (c : Nat → Int) (w : World) (hm : n ≤ 1048576) (hrow : w.rowIs g 110 (4 * n) (fun j => .int .i8 (c j))) :
    Calls Try.prog 83 #[.slice (some ⟨g, 0, none⟩) n cap] w fun e w' => Below w.heap.size w w' ∧ ∃ v, e = .returned v ∧ w'.ownsRow w.heap.size 110 4 v n (rowV c (4 * n)) := by
  obtain ⟨i0, hi, hz0, hz1, hz2⟩ := info_parts infoSlab
  have hl : (rowV c (4 * n)).length = n * 4 := by rw [rowV_length]; omega
  have hc : ∀ j u, (rowV c (4 * n))[j]? = some u → (w.alloc (.cells #[] 110)).cell? ((⟨g, 0, none⟩ : Addr).add j) = some u := by
    intro j u hu
    obtain ⟨hj, rfl⟩ := rowV_of hu
    rw [Addr.add_lit, Nat.zero_add]
    exact (hrow.alloc _).cell hj
  have HC := Lib.hid hc
  have HL := Lib.hid hl
  have q22 : ∀ (w : World) (a : Option Addr) (n c n' c' : Nat), (binOp .eql 29 (.slice a n c) (.slice none n' c')).run Try.prog w = .ok (.bool a.isNone) w := fun w a n c n' c' => Lib.run_eql_slice_nil w _ _ a n c n' c' Try.underlying29
  clear hc hl
  go_enter Try.func83, Try.ntmps83
  go_wp2_with (at_builtin; refine wpList_append_own _ rfl _ _ 29 rfl w.heap.size 110 i0 (.agg #[.int .i8 0, .int .i8 0, .int .i8 0, .int .i8 0]) 4 4 Try.underlying29 hi hz0 hz1 hz2 rfl (by decide) _ _ _ rfl (World.ownsRow_made w #[] 0 (Nat.le_refl _) (Nat.zero_le _) (by simp)) ⟨g, 0, none⟩ n cap (rowV c (4 * n)) rfl HL.out HC.out rowV_one (by unfold maxLen; omega) (by omega) (by simp) ?_)
  intro v' w1 hown hgrow hnil
  go_wp2
  go_ret
  exact ⟨((Below.refl _ w).alloc (Nat.le_refl _) _).grown hgrow (by simp) (by intro k hk; simp [Value.ownBlock] at hk; omega), v', rfl, by simpa using hown⟩

/-- the numbers without the four of slab k. -/
def cutF (c : Nat → Int) (k j : Nat) : Int := if j < 4 * k then c j else c (j + 4)

theorem own8_setCells {w : World} {g off n o : Nat} {f d : Nat → Int} {m : Nat} (h : Own8 w g off n f) (hm : o + m ≤ n) : Own8 (w.setCells g (off + o) (rowV d m)) g off n (fun j => if o ≤ j ∧ j < o + m then d (j - o) else f j) := fun j hj => by
  have hsome : ∀ i, i < (rowV d m).length → (w.cell? ⟨g, off + o + i, none⟩).isSome = true := fun i hi => by
    rw [rowV_length] at hi
    rw [Nat.add_assoc, (h (o + i) (by omega)).1]; rfl
  refine ⟨?_, by rw [World.frozen?_setCells]; exact (h j hj).2⟩
  by_cases hin : o ≤ j ∧ j < o + m
  · simp only [if_pos hin]
    have := World.cell?_setCells_in g (rowV d m) (off + o) w hsome (j - o) (by rw [rowV_length]; omega)
    rw [show off + o + (j - o) = off + j by omega] at this
    rw [this]
    have h2 := rowV_get (f := d) (m := m) (j := j - o) (by omega)
    rw [List.getElem?_eq_getElem (by rw [rowV_length]; omega)] at h2
    exact h2
  · simp only [if_neg hin]
    rw [World.cell?_setCells_out g _ _ _ _ (fun _ _ => by show off + j < off + o ∨ off + o + (rowV d m).length ≤ off + j; rw [rowV_length]; omega)]
    exact (h j hj).1

theorem zeroCells4 (n : Nat) : (Builtin.zeroCells (Value.agg #[.int .i8 0, .int .i8 0, .int .i8 0, .int .i8 0]).cells n).toList = rowV (fun _ => 0) (n * 4) := by
  have hc : (Value.agg #[.int .i8 0, .int .i8 0, .int .i8 0, .int .i8 0]).cells = #[.int .i8 0, .int .i8 0, .int .i8 0, .int .i8 0] := by rfl
  rw [hc]
  unfold Builtin.zeroCells rowV
  apply List.ext_getElem
  · simp
  · intro i h1 h2
    simp at h1
    have h4 : i % 4 < 4 := Nat.mod_lt _ (by decide)
    have : i % 4 = 0 ∨ i % 4 = 1 ∨ i % 4 = 2 ∨ i % 4 = 3 := by omega
    rcases this with h | h | h | h <;> simp [h]
theorem zeroSlab (w : World) : (zeroValue 110).run Try.prog w = .ok (.agg #[.int .i8 0, .int .i8 0, .int .i8 0, .int .i8 0]) w := Try.zeroValue110 w
theorem run_clear4 (w : World) (t e ty : TypeId) (ht : Try.prog.underlying t = some (.slice e)) (hv : ∀ w, (zeroValue e).run Try.prog w = .ok (.agg #[.int .i8 0, .int .i8 0, .int .i8 0, .int .i8 0]) w) (b o n c : Nat) (hn : 0 < n)
    (hc : ∀ j, j < n * 4 → (w.cell? ⟨b, o + j, none⟩).isSome = true) (hf : ∀ j, j < n * 4 → w.frozen? ⟨b, o + j, none⟩ = false) :
    (Builtin.clear_ #[t] ty #[.slice (some ⟨b, o, none⟩) n c]).run Try.prog w = .ok (.tuple #[]) (w.setCells b o (rowV (fun _ => 0) (n * 4))) := by
  have hzc := zeroCells4 n
  have hst := run_storeCells_cells (P := Try.prog) b o (rowV (fun _ => 0) (n * 4)) 0 w (by intro j hj; rw [rowV_length] at hj; simpa using hc j hj) (by intro j hj; rw [rowV_length] at hj; simpa using hf j hj) rowV_one
  simp only [Nat.add_zero] at hst
  obtain ⟨m, rfl⟩ : ∃ m, n = m + 1 := ⟨n - 1, by omega⟩
  simp [Builtin.clear_, run_underlying ht, hv, hzc, hst]

theorem setCells_tape (g : Nat) : ∀ (vs : List Value) (o : Nat) (w : World), (w.setCells g o vs).tape = w.tape ∧ (w.setCells g o vs).heap.size = w.heap.size
  | [], _, _ => ⟨rfl, rfl⟩
  | v :: r, o, w => by
    have h := setCells_tape g r (o + 1) (w.setCell ⟨g, o, none⟩ v)
    exact ⟨h.1.trans rfl, h.2.trans (by simp)⟩
theorem grown_setCells {w : World} (g o : Nat) (vs : List Value) : w.grownBy (w.setCells g o vs) (some g) :=
  ⟨World.os_setCells .., (setCells_tape ..).1, World.output_setCells .., by rw [(setCells_tape ..).2]; exact Nat.le_refl _, fun j hj hne => World.heap_setCells_other w g o vs hj (by rintro rfl; exact hne rfl)⟩
