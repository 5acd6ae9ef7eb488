/-
  A copy of a slice of cells that a call makes. Conditions stand at each.
-/
import Derived.Test.YtegnhpanlbfmdaaRows
import Derived.Test.YtegnhpanlbfmdaaCellL
import Derived.Test.YtegnhpanlbfmdaaOwnC
import Derived.Lib.SliceRun
namespace Go.Proofs.Ytegnhpanlbfmdaa
open Go Go.ChangeShapes Go.WideShapes Go.ChangeAt Go.RowKit
set_option linter.unusedVariables false
set_option linter.unusedSimpArgs false
set_option maxRecDepth 100000
set_option maxHeartbeats 2000000

def numsC (n : Nat) (c : Nat → Int) : List Value := (List.range (n * 2)).map fun i => .int .i8 (c i)
theorem numsC_length (n : Nat) (c : Nat → Int) : (numsC n c).length = n * 2 := by simp [numsC]
theorem numsC_one {n : Nat} {c : Nat → Int} : ∀ u ∈ numsC n c, u.oneCell' = true := by
  intro u hu
  obtain ⟨i, _, rfl⟩ := List.mem_map.1 hu
  rfl
theorem numsC_get {n : Nat} {c : Nat → Int} {i : Nat} (h : i < n * 2) : (numsC n c)[i]? = some (.int .i8 (c i)) := by
  unfold numsC
  rw [List.getElem?_map, List.getElem?_range h]
  rfl
theorem numsC_news {w : World} {B n b off : Nat} {c : Nat → Int} (h : RdK .i8 w B (some ⟨b, off, none⟩) (2 * n) c) : ∀ j u, (numsC n c)[j]? = some u → w.cell? ((⟨b, off, none⟩ : Addr).add j) = some u := by
  intro j u hu
  by_cases hj : j < n * 2
  · rw [numsC_get hj] at hu
    injection hu with hu
    obtain ⟨b', off', e, _, hc⟩ := h (by omega)
    injection e with e
    injection e with e1 e2 _
    subst e1 e2
    rw [← hu, Go.WideShapes.add_plain]
    exact hc j (by omega)
  · rw [List.getElem?_eq_none (by rw [numsC_length]; omega)] at hu
    cases hu
/-- a row of n cells of the call's own. -/
def OwnG (w : World) (base : Nat) (v : Value) (n : Nat) (c : Nat → Int) : Prop := w.ownsRow base 40 2 v n (numsC n c)
theorem OwnG.below {w w' : World} {base n : Nat} {v : Value} {c : Nat → Int} (h : OwnG w base v n c) (hb : Below w.heap.size w w') : OwnG w' base v n c := by
  refine ⟨h.1, h.2.imp id ?_⟩
  rintro ⟨g, cap, cur, h1, h2, h3, h4⟩
  exact ⟨g, cap, cur, h1, h2, (hb.block _ (Array.getElem?_eq_some_iff.1 h3).1).trans h3, h4⟩
theorem OwnG.alloc {w : World} {base n : Nat} {v : Value} {c : Nat → Int} (h : OwnG w base v n c) (o : Obj) : OwnG (w.alloc o) base v n c := h.below (al (Below.refl _ _) o)
theorem OwnG.of_blocks {w w' : World} {base n : Nat} {v : Value} {c : Nat → Int} (h : OwnG w base v n c) (hk : ∀ g, base ≤ g → g < w.heap.size → w'.heap[g]? = w.heap[g]?) : OwnG w' base v n c := by
  refine ⟨h.1, h.2.imp id ?_⟩
  rintro ⟨g, cap, cur, h1, h2, h3, h4⟩
  exact ⟨g, cap, cur, h1, h2, (hk g h2 (Array.getElem?_eq_some_iff.1 h3).1).trans h3, h4⟩
theorem OwnG.drew {w : World} {base n : Nat} {v : Value} {c : Nat → Int} (h : OwnG w base v n c) : OwnG w.drew base v n c := h
theorem OwnG.mono {w : World} {base base' n : Nat} {v : Value} {c : Nat → Int} (h : OwnG w base v n c) (hb : base' ≤ base) : OwnG w base' v n c := World.ownsRow.mono h hb
theorem OwnG.form {w : World} {base n : Nat} {v : Value} {c : Nat → Int} (h : OwnG w base v n c) : ∃ A cap, v = .slice A n cap ∧ (0 < n → ∃ g, A = some ⟨g, 0, none⟩ ∧ base ≤ g ∧ g < w.heap.size) := by
  rcases h.2 with ⟨rfl, h0⟩ | ⟨g, cap, cur, h1, h2, h3, h4⟩
  · exact ⟨none, 0, by rw [h0], fun k => absurd h0 (by omega)⟩
  · exact ⟨some ⟨g, 0, none⟩, cap, h1, fun _ => ⟨g, rfl, h2, (Array.getElem?_eq_some_iff.1 h3).1⟩⟩
theorem OwnG.has {w : World} {base n : Nat} {v : Value} {c : Nat → Int} (h : OwnG w base v n c) : HasSlice .i8 2 w base v n c := by
  rcases h.2 with ⟨rfl, h0⟩ | ⟨g, cap, cur, rfl, hb, hg, _⟩
  · refine ⟨none, 0, 0, by rw [h0], fun h => by omega, fun j hj => by rw [h0] at hj; simp at hj⟩
  · refine ⟨some ⟨g, 0, none⟩, g, cap, rfl, fun _ => ⟨rfl, hb, (Array.getElem?_eq_some_iff.1 hg).1⟩, fun j hj => ⟨?_, World.ownsRow.frozenAt h _⟩⟩
    have hc := World.ownsRow.cells h rfl j _ (numsC_get (by omega))
    rwa [Go.WideShapes.add_plain] at hc
theorem OwnG.rd {w : World} {base n cap : Nat} {A : Option Addr} {c : Nat → Int} (h : OwnG w base (.slice A n cap) n c) : RdK .i8 w w.heap.size A (2 * n) c := by
  obtain ⟨A', g, cap', e, h1, h2⟩ := h.has
  injection e with e1 _ e3
  subst e1
  intro h0
  obtain ⟨rfl, hb, hl⟩ := h1 (by omega)
  exact ⟨g, 0, rfl, hl, fun j hj => by have := (h2 j (by omega)).1; rwa [Nat.zero_add] at this ⊢⟩
theorem OwnG.nil (w : World) (base : Nat) (c : Nat → Int) : OwnG w base (.slice none 0 0) 0 c := ⟨by simp [numsC], .inl ⟨rfl, rfl⟩⟩

theorem cloneC_any (b n : Nat) (c : Nat → Int) (w : World) (h8 : n ≤ 8) (hr : RdK .i8 w w.heap.size (some ⟨b, 0, none⟩) (2 * n) c) :
    Calls Try.prog 155 #[.slice (some ⟨b, 0, none⟩) n n] w fun e w' => Below w.heap.size w w' ∧ ∃ v, e = .returned v ∧ OwnG w' w.heap.size v n c := by
  obtain ⟨i0, hi, hz0, hz1, hz2⟩ := info_parts infoCell
  have hb1 := al (Below.refl w.heap.size w) (.cells #[] 40)
  have R1 := Lib.hid (hr.below hb1)
  have q22 : ∀ (w : World) (a : Option Addr) (n c n' c' : Nat), (binOp .eql 31 (.slice a n c) (.slice none n' c')).run Try.prog w = .ok (.bool a.isNone) w := fun w a n c n' c' => Lib.run_eql_slice_nil w _ _ a n c n' c' Try.underlying31
  clear hr
  go_enter Try.func155, Try.ntmps155
  go_wp2_with (at_builtin; refine wpList_append_own _ rfl _ _ 31 rfl w.heap.size 40 i0 (.agg #[.int .i8 0, .int .i8 0]) 2 2 Try.underlying31 hi hz0 hz1 hz2 rfl (by decide) _ _ _ rfl (World.ownsRow_made w #[] 0 (Nat.le_refl _) (Nat.zero_le _) rfl) ⟨b, 0, none⟩ n n (numsC n c) rfl (numsC_length n c) (numsC_news R1.out) numsC_one (by unfold maxLen; omega) (by omega) (by simp) ?_; intro v' w1 own' hgr _)
  rw [Nat.zero_add, List.nil_append] at own'
  have hgr2 : (w.alloc (.cells #[] 40)).grownBy w1 (some w.heap.size) := hgr
  have B1 : Below w.heap.size w w1 := hb1.grown hgr2 (by simp) (fun k e => by injection e with e; omega)
  have O1 : OwnG w1 w.heap.size v' n c := own'
  clear own' hgr hgr2
  go_wp2
  go_ret
  exact ⟨B1, v', rfl, O1⟩
end Go.Proofs.Ytegnhpanlbfmdaa
