/-
  Both sides of CommonJoints answer the same. Conditions stand at each.
-/
import Derived.Test.YtjeccdmhpbaabaaRows
import Derived.Test.YtjeccdmhpbaabaaJointsOfB
import Derived.Test.YtjeccdmhpbaabaaCommonS
import Derived.Test.YtjeccdmhpbaabaaCommonI
namespace Go.Proofs.Ytjeccdmhpbaabaa
open Go Go.ChangeShapes Go.WideShapes Go.ChangeAt Go.RowKit
set_option linter.unusedVariables false
set_option linter.unusedSimpArgs false
set_option maxRecDepth 100000
set_option maxHeartbeats 2000000
namespace commonJoints
/-- the joints that two rows have in common, whichever is gone through. -/
theorem com_eq (n m : Nat) (c d : Nat → Int) (k : Int) (h1 : RowOk n c) (h2 : RowOk m d) (h3 : JointOk k) : comL (jtL k d (m - 1)) (jtL k c (n - 1)) = comL (jtL k c (n - 1)) (jtL k d (m - 1)) :=
  comL_comm _ _ (jtL_rises k d m h2.1.2 h3 h2.2 (m - 1) (by omega)) (jtL_rises k c n h1.1.2 h3 h1.2 (n - 1) (by omega))

theorem spec_any (A B : Option Addr) (n m ca cb : Nat) (c d : Nat → Int) (k : Int) (w : World) (hn : n ≤ 1048576) (hm : m ≤ 1048576) (hca : n ≤ ca) (hcb : m ≤ cb) (hr : RdK .i64 w w.heap.size A n c) (hs : RdK .i64 w w.heap.size B m d) :
    Calls Try.prog 47 #[.slice A n ca, .slice B m cb, .int .i64 k] w (jointsOf.Post (RowOk n c ∧ RowOk m d ∧ JointOk k) (comL (jtL k c (n - 1)) (jtL k d (m - 1))) w) := by
  have HR := Lib.hid hr
  have HS := Lib.hid hs
  clear hr hs
  go_enter Try.func47, Try.ntmps47
  have B1 : Below w.heap.size w w := Below.refl _ _
  go_wp2_with fail
  refine (l03Row_any A n ca c _ hn HR.out).mono ?_
  rintro e w1 ⟨hb, ⟨h, rfl⟩ | ⟨h, rfl⟩⟩
  case inr =>
    have H := Lib.hid h
    replace B1 := nxt B1 hb
    clear h hb
    go_wp2_with fail
    exact bodyPost_ret (results_tmp2 Try.results47 _ _ _) rfl ⟨al B1 _, .inr ⟨fun h => H.out h.1, _, rfl, OwnI.made _ (B1.size)⟩⟩
  have H := Lib.hid h
  replace B1 := nxt B1 hb
  clear h hb
  go_wp2_with fail
  refine (l03Row_any B m cb d _ hm ((HS.out.below B1).mono B1.size)).mono ?_
  rintro e w2 ⟨hb, ⟨h, rfl⟩ | ⟨h, rfl⟩⟩
  case inr =>
    have H2 := Lib.hid h
    replace B1 := nxt B1 hb
    clear h hb
    go_wp2_with fail
    exact bodyPost_ret (results_tmp2 Try.results47 _ _ _) rfl ⟨al B1 _, .inr ⟨fun h => H2.out h.2.1, _, rfl, OwnI.made _ (B1.size)⟩⟩
  have H2 := Lib.hid h
  replace B1 := nxt B1 hb
  clear h hb
  obtain ⟨wo, rfl⟩ : ∃ wo : World, wo = w2 := ⟨_, rfl⟩
  go_wp2_with fail
  refine (l03Joint_any k _).mono ?_
  rintro e w3 ⟨hw, ⟨h, rfl⟩ | ⟨h, rfl⟩⟩
  case inr =>
    have H3 := Lib.hid h
    replace hw := hw.symm
    subst hw
    clear h
    go_wp2_with fail
    exact bodyPost_ret (results_tmp2 Try.results47 _ _ _) rfl ⟨al B1 _, .inr ⟨fun h => H3.out h.2.2, _, rfl, OwnI.made _ (B1.size)⟩⟩
  have H3 := Lib.hid h
  replace hw := hw.symm
  subst hw
  clear h
  have hs := B1.size
  go_wp2_with fail
  refine (l03Common_any A B n m ca cb c d k _ H.out.1.1 H.out.1.2 H2.out.1.1 H2.out.1.2 ((HR.out.below B1).mono hs) ((HS.out.below B1).mono hs)).mono ?_
  rintro e w4 ⟨hb2, v, rfl, O⟩
  have B2 := nxt B1 hb2
  clear B1 hb2
  go_wp2_with fail
  exact bodyPost_ret (results_tmp2 Try.results47 _ _ _) rfl ⟨B2, .inl ⟨⟨H.out, H2.out, H3.out⟩, v, rfl, O.mono hs⟩⟩

theorem impl_any (A B : Option Addr) (n m ca cb : Nat) (c d : Nat → Int) (k : Int) (w : World) (hn : n ≤ 1048576) (hm : m ≤ 1048576) (hca : n ≤ ca) (hcb : m ≤ cb) (hr : RdK .i64 w w.heap.size A n c) (hs : RdK .i64 w w.heap.size B m d) :
    Calls Try.prog 48 #[.slice A n ca, .slice B m cb, .int .i64 k] w (jointsOf.Post (RowOk n c ∧ RowOk m d ∧ JointOk k) (comL (jtL k c (n - 1)) (jtL k d (m - 1))) w) := by
  have HR := Lib.hid hr
  have HS := Lib.hid hs
  clear hr hs
  go_enter Try.func48, Try.ntmps48
  have B1 : Below w.heap.size w w := Below.refl _ _
  go_wp2_with fail
  refine (isRow_any A n ca c _ hn HR.out).mono ?_
  rintro e w1 ⟨hb, ⟨h, rfl⟩ | ⟨h, rfl⟩⟩
  case inr =>
    have H := Lib.hid h
    replace B1 := nxt B1 hb
    clear h hb
    go_wp2_with fail
    exact bodyPost_ret (results_tmp2 Try.results48 _ _ _) rfl ⟨B1, .inr ⟨fun h => H.out h.1, _, rfl, OwnI.nil _ _⟩⟩
  have H := Lib.hid h
  replace B1 := nxt B1 hb
  clear h hb
  go_wp2_with fail
  refine (isRow_any B m cb d _ hm ((HS.out.below B1).mono B1.size)).mono ?_
  rintro e w2 ⟨hb, ⟨h, rfl⟩ | ⟨h, rfl⟩⟩
  case inr =>
    have H2 := Lib.hid h
    replace B1 := nxt B1 hb
    clear h hb
    go_wp2_with fail
    exact bodyPost_ret (results_tmp2 Try.results48 _ _ _) rfl ⟨B1, .inr ⟨fun h => H2.out h.2.1, _, rfl, OwnI.nil _ _⟩⟩
  have H2 := Lib.hid h
  replace B1 := nxt B1 hb
  clear h hb
  obtain ⟨wo, rfl⟩ : ∃ wo : World, wo = w2 := ⟨_, rfl⟩
  go_wp2_with fail
  refine (isJoint_any k _).mono ?_
  rintro e w3 ⟨hw, ⟨h, rfl⟩ | ⟨h, rfl⟩⟩
  case inr =>
    have H3 := Lib.hid h
    replace hw := hw.symm
    subst hw
    clear h
    go_wp2_with fail
    exact bodyPost_ret (results_tmp2 Try.results48 _ _ _) rfl ⟨B1, .inr ⟨fun h => H3.out h.2.2, _, rfl, OwnI.nil _ _⟩⟩
  have H3 := Lib.hid h
  replace hw := hw.symm
  subst hw
  clear h
  have hs := B1.size
  go_wp2_with fail
  refine (callsIn_wide.1 (commonOf_in A B n m ca cb c d k _ H.out.1.1 H.out.1.2 hca H2.out.1.1 H2.out.1.2 hcb ((HR.out.below B1).mono hs) ((HS.out.below B1).mono hs))).mono ?_
  rintro e w4 ⟨hb2, v, rfl, O⟩
  have B2 := nxt B1 hb2
  clear B1 hb2
  go_wp2_with fail
  exact bodyPost_ret (results_tmp2 Try.results48 _ _ _) rfl ⟨B2, .inl ⟨⟨H.out, H2.out, H3.out⟩, v, rfl, by rw [com_eq n m c d k H.out H2.out H3.out] at O; exact O.mono hs⟩⟩

theorem both (n : Nat) (c : Nat → Int) (m : Nat) (d : Nat → Int) (k : Int) (hc : ∀ j, (Lit.int .i64 (c j)).wf = true) (hn : n ≤ 1048576) (hd : ∀ j, (Lit.int .i64 (d j)).wf = true) (hm : m ≤ 1048576) (bk : (Lit.int .i64 k).wf = true) :
    ∃ (nn : Nat) (ff : Nat → Int) (z1 : Int), nn ≤ 1000 ∧
      (∀ (W : World) (G0 G1 : Nat), Ar W G0 n c → Ar W G1 m d → Calls Try.prog 47 #[.slice (some ⟨G0, 0, none⟩) n n, .slice (some ⟨G1, 0, none⟩) m m, .int .i64 k] W fun e w' => Below W.heap.size W w' ∧ ∃ v, e = .returned (.tuple #[v, .int .i64 z1]) ∧ HasSlice .i64 1 w' W.heap.size v nn ff) ∧
      (∀ (W : World) (G0 G1 : Nat), Ar W G0 n c → Ar W G1 m d → Calls Try.prog 48 #[.slice (some ⟨G0, 0, none⟩) n n, .slice (some ⟨G1, 0, none⟩) m m, .int .i64 k] W fun e w' => Below W.heap.size W w' ∧ ∃ v, e = .returned (.tuple #[v, .int .i64 z1]) ∧ HasSlice .i64 1 w' W.heap.size v nn ff) := by
  by_cases hg : RowOk n c ∧ RowOk m d ∧ JointOk k
  · refine ⟨(comL (jtL k c (n - 1)) (jtL k d (m - 1))).length, fun j => (comL (jtL k c (n - 1)) (jtL k d (m - 1))).getD j 0, 0, by have := comL_le (jtL k c (n - 1)) (jtL k d (m - 1)); rw [jtL_length] at this; have := hg.1.1.2; omega, fun W G H R S => (spec_any _ _ n m n m c d k W hn hm (Nat.le_refl _) (Nat.le_refl _) R.rd S.rd).mono ?_, fun W G H R S => (impl_any _ _ n m n m c d k W hn hm (Nat.le_refl _) (Nat.le_refl _) R.rd S.rd).mono ?_⟩
    all_goals
      rintro e w' ⟨hb, ⟨_, v, he, o⟩ | ⟨h', _⟩⟩
      · exact ⟨hb, v, he, o.has⟩
      · exact absurd hg h'
  · refine ⟨0, fun j => ([] : List Int).getD j 0, 2, Nat.zero_le _, fun W G H R S => (spec_any _ _ n m n m c d k W hn hm (Nat.le_refl _) (Nat.le_refl _) R.rd S.rd).mono ?_, fun W G H R S => (impl_any _ _ n m n m c d k W hn hm (Nat.le_refl _) (Nat.le_refl _) R.rd S.rd).mono ?_⟩
    all_goals
      rintro e w' ⟨hb, ⟨h', _⟩ | ⟨_, v, he, o⟩⟩
      · exact absurd h' hg
      · exact ⟨hb, v, he, o.has⟩
end commonJoints
end Go.Proofs.Ytjeccdmhpbaabaa
