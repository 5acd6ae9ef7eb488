/-
  Squares and lists of slabs as a law's arguments and answers. Conditions stand at each.
-/
import Derived.Test.YtneijlogidhgiaaDoorRows
import Derived.Test.YtneijlogidhgiaaDoorSlabN
import Derived.Test.YtneijlogidhgiaaDoorDrew
import Derived.Test.YtneijlogidhgiaaDoorIv
import Derived.Test.YtneijlogidhgiaaDoorOpenS
import Derived.Test.YtneijlogidhgiaaDoorResInt64
import Derived.Deep.RegionHeld3
import Derived.Deep.DeepCutAuto
namespace Go.Proofs.YtneijlogidhgiaaDoor
open Go Go.ChangeShapes Go.WideShapes Go.ChangeAt Go.RowKit Go.Deep Go.Joins
set_option linter.unusedVariables false
set_option linter.unusedSimpArgs false
set_option maxRecDepth 100000
set_option maxHeartbeats 2000000

theorem Ar.drew {w : World} {g n : Nat} {c : Nat → Int} (h : Ar w g n c) : Ar w.drew g n c := h
theorem SliceOf.rd8 {w : World} {base : Nat} {v : Value} {n : Nat} {f : Nat → Int} {A : Option Addr} {g cap : Nat} (h : SliceOf .i8 4 w base v n f A g cap) : Rd8 w w.heap.size A (4 * n) f :=
  h.2.2.rd fun h0 => ⟨(h.2.1 (by omega)).1, (h.2.1 (by omega)).2.2⟩
theorem toSquare_ab (x y : Int) (A : Option Addr) (n cap N : Nat) (c : Nat → Int) (w : World) (hn : n ≤ 1048576) (hN : N ≤ w.heap.size) (hr : Rd8 w N A (4 * n) c) :
    Calls Tryd.prog 17 #[.agg #[.int .i8 x, .int .i8 y, .slice A n cap]] w fun e w' => ∃ g, e = .returned (.agg #[.int .i8 x, .int .i8 y, .slice (some ⟨g, 0, none⟩) n n]) ∧ w.heap.size ≤ g ∧ Below w.heap.size w w' ∧ Ab w' g n c :=
  (toSquare_any x y A n cap N c w hn hN hr).mono fun e w' ⟨g, he, hg, hb, hR⟩ => ⟨g, he, hg, hb, hR.lt, Own8.of_row hR, hR⟩
theorem apart_blocks {A B : Option Addr} {g h n m cap cap' : Nat} (hA : A = some ⟨g, 0, none⟩) (hB : B = some ⟨h, 0, none⟩) (hap : (Value.slice A n cap).ownBlock = none ∨ (Value.slice A n cap).ownBlock ≠ (Value.slice B m cap').ownBlock) : g ≠ h := by
  subst hA hB
  rintro rfl
  rcases hap with e | e
  · simp [Value.ownBlock] at e
  · exact e rfl
end Go.Proofs.YtneijlogidhgiaaDoor
