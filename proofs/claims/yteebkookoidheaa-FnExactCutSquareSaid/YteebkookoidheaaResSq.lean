/-
  A Square that a call has made: helpers of the law over it. Conditions stand at each.
-/
import Derived.Test.YteebkookoidheaaRows
import Derived.Test.YteebkookoidheaaRes
namespace Go.Proofs.Yteebkookoidheaa
open Go Go.ChangeShapes Go.WideShapes Go.ChangeAt Go.RowKit
set_option linter.unusedVariables false
set_option linter.unusedSimpArgs false
set_option maxRecDepth 100000
set_option maxHeartbeats 2000000

theorem eqSq {a b : Nat} {w : World} (x y : Int) {va vb : Value} {n : Nat} {f : Nat → Int} {A B : Option Addr} {ga gb ca cb : Nat} (hn : n ≤ 1048576) (h : SliceOf .i8 4 w a va n f A ga ca) (k : SliceOf .i8 4 w b vb n f B gb cb) :
    Calls Try.prog 19 #[.agg #[.int .i8 x, .int .i8 y, .slice A n ca], .agg #[.int .i8 x, .int .i8 y, .slice B n cb]] w fun e w' => e = .returned (.bool true) ∧ Below w.heap.size w w' :=
  eqSquare_yes x y A B n n ca cb w.heap.size f f w hn hn (Nat.le_refl _) (h.2.2.rd fun h0 => ⟨(h.2.1 (by omega)).1, (h.2.1 (by omega)).2.2⟩) (k.2.2.rd fun h0 => ⟨(k.2.1 (by omega)).1, (k.2.1 (by omega)).2.2⟩) ⟨rfl, fun _ _ => rfl⟩
theorem markSq {a : Nat} {w : World} (x y : Int) {va : Value} {n : Nat} {f : Nat → Int} {A : Option Addr} {g ca : Nat} (hn : n ≤ 1048576) (h : SliceOf .i8 4 w a va n f A g ca) :
    Calls Try.prog 21 #[.agg #[.int .i8 x, .int .i8 y, .slice A n ca], .int .i64 1] w fun e w' => e = .returned (.int .i64 (1 + 4 * n)) ∧ w.grownBy w' (rowOf n g) ∧ SliceOf .i8 4 w' a va n (mk8 1) A g ca := by
  rcases Nat.eq_zero_or_pos n with h0 | h0
  · subst h0
    refine (markSquare_any x y A w.heap.size 0 0 ca f 1 w (by omega) (by omega) hn (fun h0 => absurd h0 (by omega)) (fun j hj => by omega) (fun h0 => absurd h0 (by omega))).mono ?_
    rintro e w' ⟨rfl, hg, ho⟩
    exact ⟨rfl, ⟨hg.os, hg.tape, hg.output, hg.size, fun k hk _ => hg.block k hk (fun e => by injection e with e; omega)⟩, h.marked hg.size (fun j hj => by simp at hj)⟩
  · refine (markSquare_any x y A g 0 n ca f 1 w (by omega) (by omega) hn (fun h0 => (h.2.1 h0).1) h.2.2 (fun h0 => (h.2.1 h0).2.2)).mono ?_
    rintro e w' ⟨rfl, hg, ho⟩
    exact ⟨rfl, by rw [rowOf_pos h0]; exact hg, h.marked hg.size ho⟩
theorem heldSq {a : Nat} {w : World} (x y : Int) {va : Value} {n : Nat} {A : Option Addr} {g ca : Nat} (hn : n ≤ 1048576) (h : SliceOf .i8 4 w a va n (mk8 1) A g ca) :
    Calls Try.prog 22 #[.agg #[.int .i8 x, .int .i8 y, .slice A n ca], .int .i64 1] w fun e w' => e = .returned (.int .i64 (1 + 4 * n)) ∧ Below w.heap.size w w' :=
  heldSquare_any x y A g 0 n ca 1 w (by omega) (by omega) hn (fun h0 => (h.2.1 h0).1) h.2.2 (fun h0 => (h.2.1 h0).2.2)
end Go.Proofs.Yteebkookoidheaa
