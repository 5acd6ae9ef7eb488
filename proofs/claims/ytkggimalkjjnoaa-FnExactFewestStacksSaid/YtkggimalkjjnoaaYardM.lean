/-
  What a yard keeps while slabs are put upon its stacks. Conditions stand at each.
-/
import Derived.Test.YtkggimalkjjnoaaRows
import Derived.Test.YtkggimalkjjnoaaYard
namespace Go.Proofs.Ytkggimalkjjnoaa
open Go Go.ChangeShapes Go.WideShapes Go.ChangeAt Go.RowKit
set_option linter.unusedVariables false
set_option linter.unusedSimpArgs false
set_option maxRecDepth 100000
set_option maxHeartbeats 4000000
theorem RdK.grown {kd : IntKind} {w w' : World} {B n b : Nat} {A : Option Addr} {c : Nat → Int} (h : RdK kd w B A n c) (hg : w.grownBy w' (some b)) (hB : B ≤ b) (hs : B ≤ w.heap.size) : RdK kd w' B A n c := fun h0 => by
  obtain ⟨k, off, e, hl, hc⟩ := h h0
  exact ⟨k, off, e, hl, fun j hj => (World.cell?_of_block (w := w) (hg.block k (by omega) (fun e => by injection e; omega))).trans (hc j hj)⟩
theorem YardC.below {w w' : World} {lo : Nat} {cs : Array Value} {f : Nat → List Int} (h : YardC w lo cs f) (hb : Below w.heap.size w w') : YardC w' lo cs f :=
  ⟨h.1, fun p hp => by obtain ⟨v, hv, hP⟩ := h.2 p hp; exact ⟨v, hv, hP.far fun k _ hk => hb.block k hk⟩⟩
theorem YardC.congr {w : World} {lo : Nat} {cs : Array Value} {f g : Nat → List Int} (h : YardC w lo cs f) (e : ∀ p, p < 10 → f p = g p) : YardC w lo cs g :=
  ⟨h.1, fun p hp => by obtain ⟨v, hv, hP⟩ := h.2 p hp; rw [e p hp] at hP; exact ⟨v, hv, hP⟩⟩
theorem yard_bare (w : World) (lo : Nat) (f : Nat → List Int) (h : ∀ p, f p = []) : YardC w lo bareC f :=
  ⟨rfl, fun p hp => by
    refine ⟨bareV, ?_, .inl ⟨h p, rfl⟩⟩
    have : p = 0 ∨ p = 1 ∨ p = 2 ∨ p = 3 ∨ p = 4 ∨ p = 5 ∨ p = 6 ∨ p = 7 ∨ p = 8 ∨ p = 9 := by omega
    rcases this with rfl | rfl | rfl | rfl | rfl | rfl | rfl | rfl | rfl | rfl <;> rfl⟩
theorem upd_pl {s f : Nat → Int} {k q : Nat} (h : s k = (q : Int)) (p : Nat) : upd (pl s f k) q (f k) p = pl s f (k + 1) p := by
  unfold upd
  by_cases e : p = q
  · subst e; rw [if_pos rfl, pl_on h]
  · rw [if_neg e, pl_off (by rw [h]; omega)]
/-- a pile's uppermost slab. -/
theorem pile_top {w : World} {lo g cap : Nat} {L : List Int} (h : w.ownsRow lo 2 1 (.slice (some ⟨g, 0, none⟩) L.length cap) L.length (L.map (Value.int .i64))) (h0 : L ≠ []) :
    ∃ y, L.getLast? = some y ∧ w.cell? ⟨g, L.length - 1, none⟩ = some (.int .i64 y) := by
  have hl : 0 < L.length := List.length_pos_iff.2 h0
  refine ⟨L.getLast h0, List.getLast?_eq_some_getLast h0, row_cells h (L.length - 1) _ ?_⟩
  rw [List.getElem?_map, ← List.getLast?_eq_getElem?, List.getLast?_eq_some_getLast h0]
  rfl
/-- what a place of a yard says of a slab: whether it takes it. -/
theorem takes_cases {w : World} {lo : Nat} {v : Value} {L : List Int} (hP : PileV w lo v L) (hl : L.length ≤ 1000) (x : Int) :
    (v = .iface 175 (.agg #[]) ∧ Takes L x) ∨
    ∃ g N cap y, v = .iface 176 (.slice (some ⟨g, 0, none⟩) N cap) ∧ g < w.heap.size ∧ 1 ≤ N ∧ N ≤ 1000 ∧ w.cell? ⟨g, N - 1, none⟩ = some (.int .i64 y) ∧ (Takes L x ↔ x < y) := by
  rcases hP with ⟨rfl, rfl⟩ | ⟨h0, s, rfl, hs⟩
  · exact .inl ⟨rfl, fun y hy => by cases hy⟩
  · have hpos : 0 < L.length := List.length_pos_iff.2 h0
    obtain ⟨g, cap, rfl, hg, hgl⟩ := own_some1 hs hpos
    obtain ⟨y, hy, hc⟩ := pile_top hs h0
    exact .inr ⟨g, L.length, cap, y, rfl, hgl, hpos, hl, hc, fun h => h y hy, fun h z hz => by rw [hy] at hz; cases hz; exact h⟩
end Go.Proofs.Ytkggimalkjjnoaa
