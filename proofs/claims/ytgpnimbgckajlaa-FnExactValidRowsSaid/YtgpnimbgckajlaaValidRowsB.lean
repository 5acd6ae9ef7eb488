/-
  Both sides of ValidRows answer the same. Conditions stand at each.
-/
import Derived.Test.YtgpnimbgckajlaaRows
import Derived.Test.YtgpnimbgckajlaaRowsOk
namespace Go.Proofs.Ytgpnimbgckajlaa
open Go Go.ChangeShapes Go.WideShapes Go.ChangeAt Go.RowKit
set_option linter.unusedVariables false
set_option linter.unusedSimpArgs false
set_option maxRecDepth 100000
set_option maxHeartbeats 2000000
namespace validRows
theorem both (n : Nat) (c d : Nat → Int) (hc : ∀ j, -128 ≤ c j ∧ c j ≤ 127) (hd : ∀ j, -32768 ≤ d j ∧ d j ≤ 32767) (hn : n ≤ 1048576) :
    ∃ z1 : Bool, (∀ (W : World) (G0 : Nat), As W G0 n c d → Calls Try.prog 17 #[.slice (some ⟨G0, 0, none⟩) n n] W fun e w' => e = .returned (.bool z1) ∧ Below W.heap.size W w') ∧
      (∀ (W : World) (G0 : Nat), As W G0 n c d → Calls Try.prog 19 #[.slice (some ⟨G0, 0, none⟩) n n] W fun e w' => e = .returned (.bool z1) ∧ Below W.heap.size W w') := by
  obtain ⟨r, hr⟩ := dec_ex (RowsOk n c d)
  exact ⟨r, fun W G R => (specRows_any _ n n c d r W hn R.rd hc hd hr).mono fun e w' ⟨hb, he⟩ => ⟨he, hb⟩, fun W G R => (implRows_any _ n n c d r W hn R.rd hc hd hr).mono fun e w' ⟨hb, he⟩ => ⟨he, hb⟩⟩
end validRows
end Go.Proofs.Ytgpnimbgckajlaa
