/-
  Slices of int64 as arguments and answers of a law: opened, copied, owned. Conditions stand at each.
-/
import Derived.Test.YtmkcdelfgaogaaaDoorRows
import Derived.Test.YtmkcdelfgaogaaaDoorArgs
import Derived.Test.YtmkcdelfgaogaaaDoorResInt64
import Derived.ChangeSlices
import Derived.Deep.Onto
namespace Go.Proofs.YtmkcdelfgaogaaaDoor
open Go Go.ChangeShapes Go.WideShapes Go.ChangeAt Go.RowKit
set_option linter.unusedVariables false
set_option linter.unusedSimpArgs false
set_option maxRecDepth 100000
set_option maxHeartbeats 2000000

theorem bd64 {n : Int} (h : (Lit.int .i64 n).wf = true) : -9223372036854775808 ≤ n ∧ n ≤ 9223372036854775807 := by
  have hmin : IntKind.i64.min = -9223372036854775808 := rfl
  have hmax : IntKind.i64.max = 9223372036854775807 := rfl
  simp only [Lit.wf, Bool.and_eq_true, decide_eq_true_eq] at h
  omega

theorem RdK.mono {kd : IntKind} {w : World} {B B' n : Nat} {A : Option Addr} {c : Nat → Int} (h : RdK kd w B A n c) (hb : B ≤ B') : RdK kd w B' A n c := fun h0 => by
  obtain ⟨b, off, e, hl, hc⟩ := h h0
  exact ⟨b, off, e, by omega, hc⟩

/-- block g is a row of n numbers, and may be written. -/
def Ar (w : World) (g n : Nat) (c : Nat → Int) : Prop := g < w.heap.size ∧ OwnK .i64 w g 0 n c
section
variable {w w' : World} {g n : Nat} {c : Nat → Int}
theorem Ar.kept (h : Ar w g n c) (hs : w.heap.size ≤ w'.heap.size) (e : w'.heap[g]? = w.heap[g]?) : Ar w' g n c := ⟨Nat.lt_of_lt_of_le h.1 hs, h.2.of_block e⟩
theorem Ar.below (h : Ar w g n c) (hb : Below w.heap.size w w') : Ar w' g n c := h.kept hb.size (hb.block g h.1)
theorem Ar.alloc (h : Ar w g n c) (o : Obj) : Ar (w.alloc o) g n c := h.kept (by simp) (Below.heap_alloc w o g h.1)
theorem Ar.rd (h : Ar w g n c) : RdK .i64 w w.heap.size (some ⟨g, 0, none⟩) n c := h.2.rd fun _ => ⟨rfl, h.1⟩
end
theorem SliceOf.own {w : World} {base : Nat} {v : Value} {n : Nat} {f : Nat → Int} {A : Option Addr} {g cap : Nat} (h : SliceOf .i64 1 w base v n f A g cap) : OwnK .i64 w g 0 n f := by simpa using h.2.2
theorem SliceOf.rdN {w : World} {base : Nat} {v : Value} {n : Nat} {f : Nat → Int} {A : Option Addr} {g cap : Nat} (h : SliceOf .i64 1 w base v n f A g cap) : RdK .i64 w w.heap.size A n f :=
  h.own.rd fun h0 => ⟨(h.2.1 h0).1, (h.2.1 h0).2.2⟩

section
variable {H : Type} {enc : TypeId × Value → H} {w : World}
theorem open_nums {base : Nat} {v : Value} {d : DataW H} {p : List MemPlace} (hv : Value.okWide Tryd.prog w .any base 42 v) (h0 : DataW.Trod enc Tryd.prog w 0 (fun _ => true) true 42 v d p) :
    ∃ A n cap c, v = .slice A n cap ∧ n ≤ maxLen ∧ RdK .i64 w w.heap.size A n c ∧ ∀ j, (Lit.int .i64 (c j)).wf = true := by
  obtain ⟨A', n', cap', rfl⟩ := okWide_slice Tryd.underlying42 hv
  obtain ⟨fuel, h⟩ := h0
  rw [show (Value.slice A' n' cap').cells.toList = [Value.slice A' n' cap'] from rfl] at h
  rcases open_ints Tryd.underlying42 Tryd.underlying2 (by kernel_rfl) h with ⟨hcs, _⟩ | ⟨a, len, cap, zs, hcs, _, hl, hm, hz, _, hi, hw⟩
  · exact ⟨none, 0, 0, fun _ => 0, by simpa using hcs, by simp [maxLen], fun h0 => absurd h0 (by omega), fun _ => rfl⟩
  · simp only [if_true] at hz
    refine ⟨some a, len, cap, fun j => zs.getD j 0, by simpa using hcs, by omega, fun h0 => ?_, fun j => ?_⟩
    · have h00 := hi 0 (by omega)
      have hs := World.cell?_spot h00
      have hbl := block_lt_of_cell h00
      obtain ⟨b, off, spot⟩ := a
      have hsp : spot = none := by simpa [Addr.add] using hs
      subst hsp
      refine ⟨b, off, rfl, by simpa [Addr.add] using hbl, fun j hj => ?_⟩
      rw [← Go.WideShapes.add_plain]
      exact hi j (by omega)
    · show (Lit.int .i64 (zs.getD j 0)).wf = true
      by_cases hj : j < zs.length
      · rw [List.getD_eq_getElem?_getD, List.getElem?_eq_getElem hj]
        exact hw _ (List.getElem_mem hj)
      · rw [List.getD_eq_getElem?_getD, List.getElem?_eq_none (by omega)]
        rfl
end

theorem infoI64 : (Tryd.prog.info? 2).map (fun i => (i.zero, i.size, i.bytes)) = some (some (.int .i64 0), 1, 8) := by kernel_rfl

theorem rowIs_made1 (w : World) (z : Value) (n : Nat) (t : TypeId) : (w.alloc (.cells (madeCells #[z] n) t)).rowIs w.heap.size t n (fun _ => z) := by
  refine World.rowIs_alloc w _ t _ ?_ |> fun h => by rwa [size_madeCells] at h
  intro i hi
  rw [size_madeCells] at hi
  simp [madeCells, hi, Nat.mod_one]

/-- a list of numbers that a call owns. -/
def OwnI (w : World) (base : Nat) (v : Value) (L : List Int) : Prop := w.ownsRow base 2 1 v L.length (L.map (Value.int .i64))
theorem OwnI.has {w : World} {base : Nat} {v : Value} {L : List Int} (h : OwnI w base v L) : HasSlice .i64 1 w base v L.length (fun j => L.getD j 0) := by
  rcases h.2 with ⟨rfl, h0⟩ | ⟨g, cap, cur, rfl, hb, hg, _⟩
  · refine ⟨none, 0, 0, by rw [h0], fun h => by omega, fun j hj => by rw [h0] at hj; simp at hj⟩
  · refine ⟨some ⟨g, 0, none⟩, g, cap, rfl, fun _ => ⟨rfl, hb, (Array.getElem?_eq_some_iff.1 hg).1⟩, fun j hj => ?_⟩
    rw [Nat.one_mul] at hj
    refine ⟨?_, by rw [Nat.zero_add]; exact World.ownsRow.frozenAt h j⟩
    have := World.ownsRow.cells h rfl j (Value.int .i64 (L.getD j 0)) (by simp [List.getElem?_map, List.getElem?_eq_getElem hj])
    have e : (⟨g, 0, none⟩ : Addr).add j = ⟨g, j, none⟩ := by rw [Go.WideShapes.add_plain, Nat.zero_add]
    rw [e] at this
    rw [Nat.zero_add]
    exact this
theorem OwnI.nil (w : World) (base : Nat) : OwnI w base (.slice none 0 0) [] := World.ownsRow_nil _ _ _ _
theorem OwnI.kept {w w' : World} {base : Nat} {v : Value} {L : List Int} {row : Option Nat} (h : OwnI w base v L) (hg : w.grownBy w' row) (hne : v.ownBlock = none ∨ v.ownBlock ≠ row) : OwnI w' base v L := World.ownsRow.kept h hg hne
theorem OwnI.alloc {w : World} {base : Nat} {v : Value} {L : List Int} (h : OwnI w base v L) (o : Obj) : OwnI (w.alloc o) base v L := World.ownsRow.alloc h o
theorem OwnI.drewN {w : World} {base : Nat} {v : Value} {L : List Int} (h : OwnI w base v L) (k : Nat) : OwnI (w.drewN k) base v L := h
theorem OwnI.mono {w : World} {base base' : Nat} {v : Value} {L : List Int} (h : OwnI w base v L) (hb : base' ≤ base) : OwnI w base' v L := World.ownsRow.mono h hb

theorem ncells (W : World) (cs : Array Value) (t : TypeId) : ∀ j u, cs.toList[j]? = some u → (W.alloc (.cells cs t)).cell? ((⟨W.heap.size, 0, none⟩ : Addr).add j) = some u := by
  intro j u h
  have e : ((⟨W.heap.size, 0, none⟩ : Addr).add j) = ⟨W.heap.size, j, none⟩ := by rw [Go.WideShapes.add_plain, Nat.zero_add]
  rw [e, cell_of_row _ _ j _ _ _ (heap_alloc_new W (.cells cs t))]
  simpa using h
theorem one64 {a : Int} : ∀ u ∈ [Value.int .i64 a], u.oneCell' = true := by
  intro u hu
  simp at hu
  rw [hu]; rfl
theorem ints64 {L : List Int} : ∀ u ∈ L.map (Value.int .i64), u.oneCell' = true := by
  intro u hu
  obtain ⟨x, _, rfl⟩ := List.mem_map.1 hu
  rfl
theorem OwnI.lt {w : World} {base : Nat} {v : Value} {L : List Int} (h : OwnI w base v L) : ∀ k, v.ownBlock = some k → base ≤ k ∧ k < w.heap.size := World.ownsRow.lt h
theorem OwnI.snoc {w : World} {base : Nat} {v : Value} {L : List Int} {x : Int} (h : w.ownsRow base 2 1 v (L.length + 1) (L.map (Value.int .i64) ++ [.int .i64 x])) : OwnI w base v (L ++ [x]) := by
  unfold OwnI
  rw [List.length_append, List.map_append]
  exact h
theorem OwnI.made (w : World) {base : Nat} (h : base ≤ w.heap.size) : OwnI (w.alloc (.cells #[] 2)) base (.slice (some ⟨w.heap.size, 0, none⟩) 0 0) [] := World.ownsRow_made w #[] 0 h (Nat.zero_le _) rfl
theorem OwnI.shape {w : World} {base : Nat} {v : Value} {L : List Int} (h : OwnI w base v L) : ∃ A cap, v = .slice A L.length cap := by
  rcases h.2 with ⟨rfl, h0⟩ | ⟨g, cap, cur, rfl, _⟩
  · exact ⟨none, 0, by rw [h0]⟩
  · exact ⟨_, _, rfl⟩
theorem OwnI.below {w w' : World} {base : Nat} {v : Value} {L : List Int} (h : OwnI w base v L) (hb : Below w.heap.size w w') : OwnI w' base v L := by
  refine ⟨h.1, h.2.imp id ?_⟩
  rintro ⟨g, cap, cur, rfl, hg, hw, r⟩
  exact ⟨g, cap, cur, rfl, hg, (hb.block g (Array.getElem?_eq_some_iff.1 hw).1).trans hw, r⟩
theorem OwnI.far {w w' : World} {base : Nat} {v : Value} {L : List Int} (h : OwnI w base v L) (hb : ∀ k, base ≤ k → k < w.heap.size → w'.heap[k]? = w.heap[k]?) : OwnI w' base v L := by
  refine ⟨h.1, h.2.imp id ?_⟩
  rintro ⟨g, cap, cur, rfl, hg, hw, r⟩
  exact ⟨g, cap, cur, rfl, hg, (hb g hg (Array.getElem?_eq_some_iff.1 hw).1).trans hw, r⟩
theorem OwnI.rd {w : World} {base : Nat} {A : Option Addr} {n cap : Nat} {L : List Int} (h : OwnI w base (.slice A n cap) L) : n = L.length ∧ RdK .i64 w w.heap.size A n (fun j => L.getD j 0) := by
  have hn : n = L.length := by
    obtain ⟨A', cap', e⟩ := h.shape
    injection e
  subst hn
  obtain ⟨A', g, cap', e, h1, h2⟩ := h.has
  injection e with e1 e2 e3
  subst e1
  refine ⟨rfl, fun h0 => ⟨g, 0, (h1 h0).1, (h1 h0).2.2, fun j hj => (h2 j (by omega)).1⟩⟩
