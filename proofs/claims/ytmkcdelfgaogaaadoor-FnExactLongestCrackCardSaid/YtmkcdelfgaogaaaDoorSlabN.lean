/-
  Lists of slabs as a law's arguments: read, copied, compared, marked. Conditions stand at each.
-/
import Derived.Test.YtmkcdelfgaogaaaDoorRows
import Derived.Test.YtmkcdelfgaogaaaDoorArgs
import Derived.Test.YtmkcdelfgaogaaaDoorRes
import Derived.Test.YtmkcdelfgaogaaaDoorNums
namespace Go.Proofs.YtmkcdelfgaogaaaDoor
open Go Go.ChangeShapes Go.WideShapes Go.ChangeAt Go.RowKit Go.Deep Go.Joins
set_option linter.unusedVariables false
set_option linter.unusedSimpArgs false
set_option maxRecDepth 100000
set_option maxHeartbeats 2000000

/-- block g is n slabs whose int8s are c 0, c 1, .., and may be written. -/
structure Ab (w : World) (g n : Nat) (c : Nat → Int) : Prop where
  lt : g < w.heap.size
  own : Own8 w g 0 (4 * n) c
  row : w.rowIs g 105 (4 * n) (fun j => .int .i8 (c j))
section
variable {w w' : World} {g n : Nat} {c : Nat → Int}
theorem Ab.kept (h : Ab w g n c) (hs : w.heap.size ≤ w'.heap.size) (e : w'.heap[g]? = w.heap[g]?) : Ab w' g n c := ⟨Nat.lt_of_lt_of_le h.1 hs, h.2.of_block e, h.3.of_block e⟩
theorem Ab.below (h : Ab w g n c) (hb : Below w.heap.size w w') : Ab w' g n c := h.kept hb.size (hb.block g h.1)
theorem Ab.alloc (h : Ab w g n c) (o : Obj) : Ab (w.alloc o) g n c := h.kept (by simp) (Below.heap_alloc w o g h.1)
theorem Ab.drew (h : Ab w g n c) : Ab w.drew g n c := ⟨h.1, h.2, h.3⟩
theorem Ab.rd (h : Ab w g n c) : Rd8 w w.heap.size (some ⟨g, 0, none⟩) (4 * n) c := h.2.rd h.1
end
section
variable {H : Type} {enc : TypeId × Value → H} {w : World}
theorem open_slabsV {base : Nat} {v : Value} {d : DataW H} {p : List MemPlace} (hv : Value.okWide Tryd.prog w .any base 23 v) (h0 : DataW.Trod enc Tryd.prog w 0 (fun _ => true) true 23 v d p) :
    ∃ A n cap c, v = .slice A n cap ∧ n ≤ maxLen ∧ Rd8 w w.heap.size A (4 * n) c ∧ ∀ j, -128 ≤ c j ∧ c j ≤ 127 := by
  obtain ⟨A', n', cap', rfl⟩ := okWide_slice Tryd.underlying23 hv
  obtain ⟨fuel, h⟩ := h0
  rw [show (Value.slice A' n' cap').cells.toList = [Value.slice A' n' cap'] from rfl] at h
  exact open_slabs h
end
theorem szSlabS_ok (A : Option Addr) (n cap : Nat) (L : Int) (w : World) (hL0 : 0 ≤ L) (hL : L ≤ 1048576) (hn : (n : Int) ≤ L) :
    Calls Tryd.prog 30 #[.slice A n cap, .int .i64 L] w fun e w' => e = .returned (.int .i64 (L - n)) ∧ w = w' := by
  have h1 : 0 ≤ L - (n : Int) := by omega
  go_enter Tryd.func30, Tryd.ntmps30
  go_wp2
  go_ret
  exact ⟨rfl, rfl⟩
theorem szSlabS_big (A : Option Addr) (n cap : Nat) (L : Int) (w : World) (hL0 : 0 ≤ L) (hL : L ≤ 1048576) (hn : L < (n : Int)) (hm : n ≤ 9223372036854775807) :
    Calls Tryd.prog 30 #[.slice A n cap, .int .i64 L] w fun e w' => e = .returned (.int .i64 (-1)) ∧ w = w' := by
  have h1 : L - (n : Int) < 0 := by omega
  go_enter Tryd.func30, Tryd.ntmps30
  go_wp2
  go_ret
  exact ⟨rfl, rfl⟩
theorem toSlabS_ab (A : Option Addr) (n cap N : Nat) (c : Nat → Int) (w : World) (hn : n ≤ 1048576) (hN : N ≤ w.heap.size) (hr : Rd8 w N A (4 * n) c) :
    Calls Tryd.prog 33 #[.slice A n cap] w fun e w' => ∃ g, e = .returned (.slice (some ⟨g, 0, none⟩) n n) ∧ w.heap.size ≤ g ∧ Below w.heap.size w w' ∧ Ab w' g n c :=
  (toSlabS_any A n cap c w hn (hr.mono hN)).mono fun e w' ⟨g, he, hg, hb, hR⟩ => ⟨g, he, hg, hb, hR.lt, Own8.of_row hR, hR⟩
theorem eqSlabS_ab (A B : Option Addr) (n m ca cb N : Nat) (c d : Nat → Int) (w : World) (hn : n ≤ 1048576) (hm : m ≤ 1048576) (hN : N ≤ w.heap.size) (hr : Rd8 w N A (4 * n) c) (hs : Rd8 w N B (4 * m) d) (heq : n = m ∧ ∀ j, j < 4 * n → c j = d j) :
    Calls Tryd.prog 37 #[.slice A n ca, .slice B m cb] w fun e w' => e = .returned (.bool true) ∧ Below w.heap.size w w' :=
  eqSlabS_any A B n m ca cb N c d w hn hm hN hr hs heq
theorem markSlabS_ab (A : Option Addr) (g off n cap : Nat) (c : Nat → Int) (k0 : Int) (w : World) (hk0 : 0 ≤ k0) (hk1 : k0 ≤ 1000000000) (hn : n ≤ 1048576) (hA : 0 < n → A = some ⟨g, off, none⟩) (ho : Own8 w g off (4 * n) c) :
    Calls Tryd.prog 41 #[.slice A n cap, .int .i64 k0] w fun e w' => e = .returned (.int .i64 (k0 + 4 * n)) ∧ w.grownBy w' (rowOf n g) ∧ Own8 w' g off (4 * n) (mk8 k0) := by
  rcases Nat.eq_zero_or_pos n with h0 | h0
  · subst h0
    refine (markSlabS_any A w.heap.size 0 0 cap c k0 w hk0 hk1 hn (fun h => absurd h (by omega)) (fun j hj => by omega)).mono ?_
    rintro e w' ⟨he, hg, ho'⟩
    exact ⟨he, ⟨hg.os, hg.tape, hg.output, hg.size, fun k hk _ => hg.block k hk (fun e => by injection e with e; omega)⟩, fun j hj => by omega⟩
  · refine (markSlabS_any A g off n cap c k0 w hk0 hk1 hn hA ho).mono ?_
    rintro e w' ⟨he, hg, ho'⟩
    exact ⟨he, by rw [rowOf_pos h0]; exact hg, ho'⟩
end Go.Proofs.YtmkcdelfgaogaaaDoor
