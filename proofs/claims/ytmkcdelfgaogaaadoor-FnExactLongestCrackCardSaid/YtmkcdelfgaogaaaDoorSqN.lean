/-
  Squares and lists of slabs as a law's arguments and answers. Conditions stand at each.
-/
import Derived.Test.YtmkcdelfgaogaaaDoorRows
import Derived.Test.YtmkcdelfgaogaaaDoorSlabN
import Derived.Test.YtmkcdelfgaogaaaDoorDrew
import Derived.Test.YtmkcdelfgaogaaaDoorIv
import Derived.Test.YtmkcdelfgaogaaaDoorOpenS
import Derived.Test.YtmkcdelfgaogaaaDoorResInt64
import Derived.Deep.RegionHeld3
import Derived.Deep.DeepCutAuto
namespace Go.Proofs.YtmkcdelfgaogaaaDoor
open Go Go.ChangeShapes Go.WideShapes Go.ChangeAt Go.RowKit Go.Deep Go.Joins
set_option linter.unusedVariables false
set_option linter.unusedSimpArgs false
set_option maxRecDepth 100000
set_option maxHeartbeats 2000000

theorem Ar.drew {w : World} {g n : Nat} {c : Nat → Int} (h : Ar w g n c) : Ar w.drew g n c := h
theorem SliceOf.rd8 {w : World} {base : Nat} {v : Value} {n : Nat} {f : Nat → Int} {A : Option Addr} {g cap : Nat} (h : SliceOf .i8 4 w base v n f A g cap) : Rd8 w w.heap.size A (4 * n) f :=
  h.2.2.rd fun h0 => ⟨(h.2.1 (by omega)).1, (h.2.1 (by omega)).2.2⟩
theorem toSquare_ab (x y : Int) (A : Option Addr) (n cap N : Nat) (c : Nat → Int) (w : World) (hn : n ≤ 1048576) (hN : N ≤ w.heap.size) (hr : Rd8 w N A (4 * n) c) :
    Calls Tryd.prog 10 #[.agg #[.int .i8 x, .int .i8 y, .slice A n cap]] w fun e w' => ∃ g, e = .returned (.agg #[.int .i8 x, .int .i8 y, .slice (some ⟨g, 0, none⟩) n n]) ∧ w.heap.size ≤ g ∧ Below w.heap.size w w' ∧ Ab w' g n c :=
  (toSquare_any x y A n cap N c w hn hN hr).mono fun e w' ⟨g, he, hg, hb, hR⟩ => ⟨g, he, hg, hb, hR.lt, Own8.of_row hR, hR⟩
theorem markSquare_ab (x y : Int) (A : Option Addr) (g off n cap : Nat) (c : Nat → Int) (k0 : Int) (w : World) (hk0 : 0 ≤ k0) (hk1 : k0 ≤ 1000000000) (hn : n ≤ 1048576) (hA : 0 < n → A = some ⟨g, off, none⟩) (hg : 0 < n → g < w.heap.size) (ho : Own8 w g off (4 * n) c) :
    Calls Tryd.prog 19 #[.agg #[.int .i8 x, .int .i8 y, .slice A n cap], .int .i64 k0] w fun e w' => e = .returned (.int .i64 (k0 + 4 * n)) ∧ w.grownBy w' (rowOf n g) ∧ Own8 w' g off (4 * n) (mk8 k0) := by
  rcases Nat.eq_zero_or_pos n with h0 | h0
  · subst h0
    refine (markSquare_any x y A w.heap.size 0 0 cap c k0 w hk0 hk1 hn (fun h => absurd h (by omega)) (fun j hj => by omega) (fun h => absurd h (by omega))).mono ?_
    rintro e w' ⟨he, hgr, ho'⟩
    exact ⟨he, ⟨hgr.os, hgr.tape, hgr.output, hgr.size, fun k hk _ => hgr.block k hk (fun e => by injection e with e; omega)⟩, fun j hj => by omega⟩
  · refine (markSquare_any x y A g off n cap c k0 w hk0 hk1 hn hA ho hg).mono ?_
    rintro e w' ⟨he, hgr, ho'⟩
    exact ⟨he, by rw [rowOf_pos h0]; exact hgr, ho'⟩
theorem apart_blocks {A B : Option Addr} {g h n m cap cap' : Nat} (hA : A = some ⟨g, 0, none⟩) (hB : B = some ⟨h, 0, none⟩) (hap : (Value.slice A n cap).ownBlock = none ∨ (Value.slice A n cap).ownBlock ≠ (Value.slice B m cap').ownBlock) : g ≠ h := by
  subst hA hB
  rintro rfl
  rcases hap with e | e
  · simp [Value.ownBlock] at e
  · exact e rfl
end Go.Proofs.YtmkcdelfgaogaaaDoor
