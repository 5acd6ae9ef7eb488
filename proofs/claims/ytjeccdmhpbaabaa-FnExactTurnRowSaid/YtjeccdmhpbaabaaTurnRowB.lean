/-
  Both sides of TurnRow answer the same. Conditions stand at each.
-/
import Derived.Test.YtjeccdmhpbaabaaRows
import Derived.Test.YtjeccdmhpbaabaaTurned
namespace Go.Proofs.Ytjeccdmhpbaabaa
open Go Go.ChangeShapes Go.WideShapes Go.ChangeAt Go.RowKit
set_option linter.unusedVariables false
set_option linter.unusedSimpArgs false
set_option maxRecDepth 100000
set_option maxHeartbeats 2000000
namespace turnRow
def TurnPost (k n : Nat) (c : Nat → Int) (w : World) (e : Ending) (w' : World) : Prop :=
  Below w.heap.size w w' ∧ ∃ v, e = .returned (.tuple #[v, .int .i64 0]) ∧ HasPart .i64 w' w.heap.size v n (turnC n k c)
def BadPost (w : World) (e : Ending) (w' : World) : Prop :=
  Below w.heap.size w w' ∧ ∃ v, e = .returned (.tuple #[v, .int .i64 2]) ∧ OwnI w' w.heap.size v []

theorem impl_bad (A : Option Addr) (n cap : Nat) (k : Int) (c : Nat → Int) (w : World) (hn : n ≤ 1048576) (hr : RdK .i64 w w.heap.size A n c) (h : ¬ (RowOk n c ∧ 0 ≤ k ∧ k < n)) :
    Calls Try.prog 44 #[.slice A n cap, .int .i64 k] w (BadPost w) := by
  have HR := Lib.hid hr
  clear hr
  by_cases ho : RowOk n c
  case neg =>
    have HO := Lib.hid ho
    clear ho h
    go_enter Try.func44, Try.ntmps44
    go_wp2_with fail
    refine (isRow_any A n cap c _ hn HR.out).mono ?_
    rintro e w1 ⟨hb, ⟨h, rfl⟩ | ⟨_, rfl⟩⟩
    · exact absurd h HO.out
    go_wp2_with fail
    exact bodyPost_ret (results_tmp2 Try.results44 _ _ _) rfl ⟨hb, _, rfl, OwnI.nil _ _⟩
  have HO := Lib.hid ho
  by_cases h0 : k < 0
  · have d0 : decide (k < 0) = true := by simpa using h0
    clear ho h
    go_enter Try.func44, Try.ntmps44
    go_wp2_with fail
    refine (isRow_any A n cap c _ hn HR.out).mono ?_
    rintro e w1 ⟨hb, ⟨_, rfl⟩ | ⟨h, rfl⟩⟩
    case inr => exact absurd HO.out h
    go_wp2_with fail
    exact bodyPost_ret (results_tmp2 Try.results44 _ _ _) rfl ⟨hb, _, rfl, OwnI.nil _ _⟩
  have d0 : decide (k < 0) = false := by simpa using h0
  have h1 : (n : Int) ≤ k := by
    apply Int.not_lt.1
    intro h'
    exact h ⟨ho, by omega, h'⟩
  have d1 : decide ((n : Int) ≤ k) = true := by simpa using h1
  clear ho h
  go_enter Try.func44, Try.ntmps44
  go_wp2_with fail
  refine (isRow_any A n cap c _ hn HR.out).mono ?_
  rintro e w1 ⟨hb, ⟨_, rfl⟩ | ⟨h, rfl⟩⟩
  case inr => exact absurd HO.out h
  go_wp2_with fail
  exact bodyPost_ret (results_tmp2 Try.results44 _ _ _) rfl ⟨hb, _, rfl, OwnI.nil _ _⟩

theorem impl_in (A : Option Addr) (n cap k : Nat) (c : Nat → Int) (w : World) (hr : RdK .i64 w w.heap.size A n c) (ho : RowOk n c) (hk : k < n) :
    Calls Try.prog 44 #[.slice A n cap, .int .i64 (k : Int)] w (TurnPost k n c w) := by
  have h1 := ho.1.1
  have h60 := ho.1.2
  have d0 : decide ((k : Int) < 0) = false := by simp
  have d1 : decide ((n : Int) ≤ (k : Int)) = false := by simp; omega
  have hE : ∀ (args : Array Value) (w : World), (callFunc 162 args).run Try.prog w = .ok (.enter 162 args) w := enters_of Try.func162 (by kernel_rfl) rfl
  have HR := Lib.hid hr
  have HO := Lib.hid ho
  clear hr ho
  go_enter Try.func44, Try.ntmps44
  go_wp2_with fail
  refine (isRow_any A n cap c _ (by omega) HR.out).mono ?_
  rintro e w1 ⟨hb, ⟨_, rfl⟩ | ⟨h, rfl⟩⟩
  case inr => exact absurd HO.out h
  go_wp2_with fail
  refine (turnedBy_any A n cap c _ h1 h60 ((HR.out.below hb).mono hb.size)).mono ?_
  rintro e w2 ⟨hb2, b1, b2, v, rfl, hl, c1, c2, O⟩
  have HL := Lib.hid hl
  have HC1 := Lib.hid c1
  have HC2 := Lib.hid c2
  clear hl c1 c2
  go_wp2_with fail
  refine (turned_any b1 b2 A n cap k v _ c _ h1 h60 hk HC1.out HC2.out O).mono ?_
  rintro e w3 ⟨rfl, v', rfl, hp⟩
  have HP := Lib.hid hp
  have B2 := nxt hb hb2
  have hs := hb.size
  clear hp hb2 hb O
  go_wp2_with fail
  obtain ⟨A', g, off, cap', e, h2, h3⟩ := HP.out
  exact bodyPost_ret (results_tmp2 Try.results44 _ _ _) rfl ⟨B2, _, rfl, A', g, off, cap', e, fun h => ⟨(h2 h).1, Nat.le_trans hs (h2 h).2.1, (h2 h).2.2⟩, h3⟩

theorem spec_bad (A : Option Addr) (n : Nat) (k : Int) (c : Nat → Int) (w : World) (hn : n ≤ 1048576) (bk : -9223372036854775808 ≤ k ∧ k ≤ 9223372036854775807) (hr : RdK .i64 w w.heap.size A n c) (h : ¬ (RowOk n c ∧ 0 ≤ k ∧ k < n)) :
    Calls Try.prog 43 #[.slice A n n, .int .i64 k] w (BadPost w) := by
  have HR := Lib.hid hr
  clear hr
  by_cases ho : RowOk n c
  case neg =>
    have HO := Lib.hid ho
    clear ho h
    go_enter Try.func43, Try.ntmps43
    go_wp2_with fail
    refine (l03Row_any A n n c _ hn HR.out).mono ?_
    rintro e w1 ⟨hb, ⟨h, rfl⟩ | ⟨_, rfl⟩⟩
    · exact absurd h HO.out
    go_wp2_with fail
    exact bodyPost_ret (results_tmp2 Try.results43 _ _ _) rfl ⟨al hb _, _, rfl, OwnI.made _ hb.size⟩
  have HO := Lib.hid ho
  have h1 : ¬ (0 ≤ k ∧ k ≤ (n : Int) - 1) := fun h' => h ⟨ho, by omega, by omega⟩
  have q1 : IntKind.i64.wrap ((n : Int) - 1) = (n : Int) - 1 := IntWalk.i64_in _ (by omega)
  clear ho h
  go_enter Try.func43, Try.ntmps43
  go_wp2_with fail
  refine (l03Row_any A n n c _ hn HR.out).mono ?_
  rintro e w1 ⟨hb, ⟨_, rfl⟩ | ⟨h, rfl⟩⟩
  case inr => exact absurd HO.out h
  go_wp2_with (go_at_call 97; refine (in_no _ _ _ _ (by omega)).mono ?_; rintro e w2 ⟨rfl, hw1⟩; replace hw1 := hw1.symm; subst hw1)
  exact bodyPost_ret (results_tmp2 Try.results43 _ _ _) rfl ⟨al hb _, _, rfl, OwnI.made _ hb.size⟩

theorem spec_in (A : Option Addr) (n k : Nat) (c : Nat → Int) (w : World) (hr : RdK .i64 w w.heap.size A n c) (ho : RowOk n c) (hk : k < n) :
    Calls Try.prog 43 #[.slice A n n, .int .i64 (k : Int)] w (TurnPost k n c w) := by
  have h1 := ho.1.1
  have h60 := ho.1.2
  have q1 : IntKind.i64.wrap ((n : Int) - 1) = (n : Int) - 1 := IntWalk.i64_in _ (by omega)
  have HR := Lib.hid hr
  have HO := Lib.hid ho
  clear hr ho
  go_enter Try.func43, Try.ntmps43
  go_wp2_with fail
  refine (l03Row_any A n n c _ (by omega) HR.out).mono ?_
  rintro e w1 ⟨hb, ⟨_, rfl⟩ | ⟨h, rfl⟩⟩
  case inr => exact absurd HO.out h
  go_wp2_with (go_at_call 97; refine (in_yes _ _ _ _ (by omega) (by omega)).mono ?_; rintro e w2 ⟨rfl, hw1⟩; replace hw1 := hw1.symm; subst hw1)
  refine (l03Turn_any A n k c _ h1 h60 hk ((HR.out.below hb).mono hb.size)).mono ?_
  rintro e w2 ⟨hb2, v, rfl, O⟩
  have hp : HasPart .i64 w2 w.heap.size v n (turnC n k c) := by
    obtain ⟨A', g, cap', e, h2, h3⟩ := (O.mono hb.size).has
    have hl : (rowL (n - k) (fun j => c (k + j)) ++ rowL k c).length = n := by simp [rowL_length]; omega
    rw [hl] at e h2 h3
    refine ⟨A', g, 0, cap', e, h2, fun j hj => ?_⟩
    have e2 := turn_get (c := c) hk hj
    rw [← e2]
    exact h3 j (by omega)
  have HP := Lib.hid hp
  have B2 := nxt hb hb2
  clear hp hb2 hb O
  go_wp2_with fail
  exact bodyPost_ret (results_tmp2 Try.results43 _ _ _) rfl ⟨B2, _, rfl, HP.out⟩

theorem both (n : Nat) (c : Nat → Int) (k : Int) (hc : ∀ j, (Lit.int .i64 (c j)).wf = true) (hn : n ≤ 1048576) (bk : (Lit.int .i64 k).wf = true) :
    ∃ (nn : Nat) (ff : Nat → Int) (z1 : Int), nn ≤ 1000 ∧
      (∀ (W : World) (G0 : Nat), Ar W G0 n c → Calls Try.prog 43 #[.slice (some ⟨G0, 0, none⟩) n n, .int .i64 k] W fun e w' => Below W.heap.size W w' ∧ ∃ v, e = .returned (.tuple #[v, .int .i64 z1]) ∧ HasPart .i64 w' W.heap.size v nn ff) ∧
      (∀ (W : World) (G0 : Nat), Ar W G0 n c → Calls Try.prog 44 #[.slice (some ⟨G0, 0, none⟩) n n, .int .i64 k] W fun e w' => Below W.heap.size W w' ∧ ∃ v, e = .returned (.tuple #[v, .int .i64 z1]) ∧ HasPart .i64 w' W.heap.size v nn ff) := by
  by_cases h : RowOk n c ∧ 0 ≤ k ∧ k < n
  · obtain ⟨k', rfl⟩ := Int.eq_ofNat_of_zero_le h.2.1
    exact ⟨n, turnC n k' c, 0, by have := h.1.1.2; omega, fun W G R => spec_in _ n k' c W R.rd h.1 (by have := h.2.2; omega), fun W G R => impl_in _ n n k' c W R.rd h.1 (by have := h.2.2; omega)⟩
  · refine ⟨0, fun j => ([] : List Int).getD j 0, 2, Nat.zero_le _, fun W G R => (spec_bad _ n k c W hn (bd64 bk) R.rd h).mono ?_, fun W G R => (impl_bad _ n n k c W hn R.rd h).mono ?_⟩
    all_goals
      rintro e w' ⟨hb, v, he, o⟩
      exact ⟨hb, v, he, o.has.part⟩
end turnRow
end Go.Proofs.Ytjeccdmhpbaabaa
