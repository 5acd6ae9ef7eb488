/-
  Both sides of ValidBow answer the same. Conditions stand at each.
-/
import Derived.Test.YtaonfdngpmbbhaaRows
import Derived.Test.YtaonfdngpmbbhaaBow
namespace Go.Proofs.Ytaonfdngpmbbhaa
open Go Go.ChangeShapes Go.WideShapes Go.ChangeAt Go.RowKit
set_option linter.unusedVariables false
set_option linter.unusedSimpArgs false
set_option maxRecDepth 100000
set_option maxHeartbeats 2000000
namespace validBow
theorem specBow_any (A : Option Addr) (n cap : Nat) (c : Nat → Int) (w : World) (hn : n ≤ 1048576) (hr : RdK .i64 w w.heap.size A n c) :
    Calls Try.prog 20 #[.slice A n cap] w (Test (Bow n c) w) := by
  have HR := Lib.hid hr
  clear hr
  go_enter Try.func20, Try.ntmps20
  go_wp2_with fail
  refine (l03Bow_any A n cap c _ hn HR.out).mono ?_
  rintro e w1 ⟨hb, ⟨h, rfl⟩ | ⟨h, rfl⟩⟩
  · have H := Lib.hid h
    clear h
    go_wp2
    go_ret
    exact ⟨hb, .inl ⟨H.out, rfl⟩⟩
  · have H := Lib.hid h
    clear h
    go_wp2
    go_ret
    exact ⟨hb, .inr ⟨H.out, rfl⟩⟩
theorem both (n : Nat) (c : Nat → Int) (hc : ∀ j, (Lit.int .i64 (c j)).wf = true) (hn : n ≤ 1048576) :
    ∃ z1 : Bool, (∀ (W : World) (G0 : Nat), Ar W G0 n c → Calls Try.prog 20 #[.slice (some ⟨G0, 0, none⟩) n n] W fun e w' => e = .returned (.bool z1) ∧ Below W.heap.size W w') ∧
      (∀ (W : World) (G0 : Nat), Ar W G0 n c → Calls Try.prog 22 #[.slice (some ⟨G0, 0, none⟩) n n] W fun e w' => e = .returned (.bool z1) ∧ Below W.heap.size W w') := by
  by_cases h : Bow n c
  · refine ⟨true, fun W G R => (specBow_any _ n n c W hn R.rd).mono ?_, fun W G R => (validBow_any _ n n c W hn R.rd).mono ?_⟩
    all_goals
      rintro e w' ⟨hb, ⟨_, he⟩ | ⟨h', _⟩⟩
      · exact ⟨he, hb⟩
      · exact absurd h h'
  · refine ⟨false, fun W G R => (specBow_any _ n n c W hn R.rd).mono ?_, fun W G R => (validBow_any _ n n c W hn R.rd).mono ?_⟩
    all_goals
      rintro e w' ⟨hb, ⟨h', _⟩ | ⟨_, he⟩⟩
      · exact absurd h' h
      · exact ⟨he, hb⟩
end validBow
end Go.Proofs.Ytaonfdngpmbbhaa
