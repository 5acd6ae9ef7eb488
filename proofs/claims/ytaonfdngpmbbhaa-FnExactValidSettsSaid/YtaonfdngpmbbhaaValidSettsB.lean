/-
  Both sides of ValidSetts answer the same. Conditions stand at each.
-/
import Derived.Test.YtaonfdngpmbbhaaRows
import Derived.Test.YtaonfdngpmbbhaaSettsOk
namespace Go.Proofs.Ytaonfdngpmbbhaa
open Go Go.ChangeShapes Go.WideShapes Go.ChangeAt Go.RowKit
set_option linter.unusedVariables false
set_option linter.unusedSimpArgs false
set_option maxRecDepth 100000
set_option maxHeartbeats 2000000
namespace validSetts
theorem specSetts_any (A : Option Addr) (n cap : Nat) (c d : Nat → Int) (w : World) (hn : n ≤ 1048576) (hr : RdS w w.heap.size A n c d) (hc : ∀ j, -128 ≤ c j ∧ c j ≤ 127) (hd : ∀ j, -32768 ≤ d j ∧ d j ≤ 32767) :
    Calls Try.prog 16 #[.slice A n cap] w (Sorts n c d w) := by
  have HC := Lib.hid hc
  have HD := Lib.hid hd
  have HR := Lib.hid hr
  clear hc hd hr
  go_enter Try.func16, Try.ntmps16
  go_wp2_with fail
  refine (l03Ok_any A n cap c d _ hn HR.out HC.out HD.out).mono ?_
  rintro e w1 ⟨hb, ⟨h, rfl⟩ | ⟨h, rfl⟩⟩
  · have H := Lib.hid h
    clear h
    go_wp2
    go_ret
    exact ⟨hb, .inl ⟨H.out, rfl⟩⟩
  · have H := Lib.hid h
    clear h
    go_wp2
    go_ret
    exact ⟨hb, .inr ⟨H.out, rfl⟩⟩

theorem both (n : Nat) (c d : Nat → Int) (hc : ∀ j, -128 ≤ c j ∧ c j ≤ 127) (hd : ∀ j, -32768 ≤ d j ∧ d j ≤ 32767) (hn : n ≤ 1048576) :
    ∃ z1 : Bool, (∀ (W : World) (G0 : Nat), As W G0 n c d → Calls Try.prog 16 #[.slice (some ⟨G0, 0, none⟩) n n] W fun e w' => e = .returned (.bool z1) ∧ Below W.heap.size W w') ∧
      (∀ (W : World) (G0 : Nat), As W G0 n c d → Calls Try.prog 18 #[.slice (some ⟨G0, 0, none⟩) n n] W fun e w' => e = .returned (.bool z1) ∧ Below W.heap.size W w') := by
  by_cases h : SOk n c d
  · refine ⟨true, fun W G R => (specSetts_any _ n n c d W hn R.rd hc hd).mono ?_, fun W G R => (validSetts_any _ n n c d W hn R.rd hc hd).mono ?_⟩
    · rintro e w' ⟨hb, ⟨_, he⟩ | ⟨h', _⟩⟩
      · exact ⟨he, hb⟩
      · exact absurd h h'
    · rintro e w' ⟨hb, ⟨_, he⟩ | ⟨h', _⟩⟩
      · exact ⟨he, hb⟩
      · exact absurd h h'
  · refine ⟨false, fun W G R => (specSetts_any _ n n c d W hn R.rd hc hd).mono ?_, fun W G R => (validSetts_any _ n n c d W hn R.rd hc hd).mono ?_⟩
    · rintro e w' ⟨hb, ⟨h', _⟩ | ⟨_, he⟩⟩
      · exact absurd h' h
      · exact ⟨he, hb⟩
    · rintro e w' ⟨hb, ⟨h', _⟩ | ⟨_, he⟩⟩
      · exact absurd h' h
      · exact ⟨he, hb⟩
end validSetts
end Go.Proofs.Ytaonfdngpmbbhaa
