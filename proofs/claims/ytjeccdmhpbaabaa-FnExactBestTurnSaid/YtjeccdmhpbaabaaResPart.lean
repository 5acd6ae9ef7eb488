/-
  Slices of numbers that a call has made, anywhere in their block. Conditions stand at each.
-/
import Derived.Test.YtjeccdmhpbaabaaRows
import Derived.Test.YtjeccdmhpbaabaaRes
namespace Go.Proofs.Ytjeccdmhpbaabaa
open Go Go.ChangeShapes Go.WideShapes Go.ChangeAt Go.RowKit
set_option linter.unusedVariables false
set_option linter.unusedSimpArgs false

def PartOf (kd : IntKind) (w : World) (base : Nat) (v : Value) (n : Nat) (f : Nat → Int) (A : Option Addr) (g off cap : Nat) : Prop :=
  v = .slice A n cap ∧ (0 < n → A = some ⟨g, off, none⟩ ∧ base ≤ g ∧ g < w.heap.size) ∧ OwnK kd w g off n f
def HasPart (kd : IntKind) (w : World) (base : Nat) (v : Value) (n : Nat) (f : Nat → Int) : Prop := ∃ A g off cap, PartOf kd w base v n f A g off cap
section
variable {kd : IntKind} {w w' : World} {base : Nat} {v : Value} {n : Nat} {f f' : Nat → Int} {A : Option Addr} {g off cap : Nat}
theorem PartOf.kept (h : PartOf kd w base v n f A g off cap) (hs : w.heap.size ≤ w'.heap.size) (e : 0 < n → w'.heap[g]? = w.heap[g]?) : PartOf kd w' base v n f A g off cap := by
  refine ⟨h.1, fun h0 => ⟨(h.2.1 h0).1, (h.2.1 h0).2.1, Nat.lt_of_lt_of_le (h.2.1 h0).2.2 hs⟩, ?_⟩
  by_cases h0 : 0 < n
  · exact h.2.2.of_block (e h0)
  · intro j hj
    omega
theorem PartOf.below (h : PartOf kd w base v n f A g off cap) (hb : Below w.heap.size w w') : PartOf kd w' base v n f A g off cap :=
  h.kept hb.size (fun h0 => hb.block g (h.2.1 h0).2.2)
theorem PartOf.marked (h : PartOf kd w base v n f A g off cap) (hs : w.heap.size ≤ w'.heap.size) (ho : OwnK kd w' g off n f') : PartOf kd w' base v n f' A g off cap :=
  ⟨h.1, fun h0 => ⟨(h.2.1 h0).1, (h.2.1 h0).2.1, Nat.lt_of_lt_of_le (h.2.1 h0).2.2 hs⟩, ho⟩
theorem PartOf.own (h : PartOf kd w base v n f A g off cap) : OwnK kd w g off n f := h.2.2
theorem PartOf.rdN (h : PartOf kd w base v n f A g off cap) : RdK kd w w.heap.size A n f := h.2.2.rd fun h0 => ⟨(h.2.1 h0).1, (h.2.1 h0).2.2⟩
theorem HasSlice.part (h : HasSlice kd 1 w base v n f) : HasPart kd w base v n f := by
  obtain ⟨A, g, cap, h⟩ := h
  exact ⟨A, g, 0, cap, h.1, h.2.1, by simpa using h.2.2⟩
end
end Go.Proofs.Ytjeccdmhpbaabaa
