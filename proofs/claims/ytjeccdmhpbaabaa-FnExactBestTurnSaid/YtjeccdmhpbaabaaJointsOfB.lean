/-
  Both sides of JointsOf answer the same. Conditions stand at each.
-/
import Derived.Test.YtjeccdmhpbaabaaRows
import Derived.Test.YtjeccdmhpbaabaaJointsS
namespace Go.Proofs.Ytjeccdmhpbaabaa
open Go Go.ChangeShapes Go.WideShapes Go.ChangeAt Go.RowKit
set_option linter.unusedVariables false
set_option linter.unusedSimpArgs false
set_option maxRecDepth 100000
set_option maxHeartbeats 2000000
namespace jointsOf
def Post (ok : Prop) (L : List Int) (w : World) (e : Ending) (w' : World) : Prop :=
  Below w.heap.size w w' ∧ ((ok ∧ ∃ v, e = .returned (.tuple #[v, .int .i64 0]) ∧ OwnI w' w.heap.size v L) ∨ (¬ ok ∧ ∃ v, e = .returned (.tuple #[v, .int .i64 2]) ∧ OwnI w' w.heap.size v []))

theorem spec_any (A : Option Addr) (n cap : Nat) (c : Nat → Int) (k : Int) (w : World) (hn : n ≤ 1048576) (hr : RdK .i64 w w.heap.size A n c) :
    Calls Try.prog 45 #[.slice A n cap, .int .i64 k] w (Post (RowOk n c ∧ JointOk k) (jtL k c (n - 1)) w) := by
  have HR := Lib.hid hr
  clear hr
  go_enter Try.func45, Try.ntmps45
  go_wp2_with fail
  refine (l03Row_any A n cap c _ hn HR.out).mono ?_
  rintro e w1 ⟨hb, ⟨h, rfl⟩ | ⟨h, rfl⟩⟩
  case inr =>
    have H := Lib.hid h
    clear h
    go_wp2_with fail
    exact bodyPost_ret (results_tmp2 Try.results45 _ _ _) rfl ⟨al hb _, .inr ⟨fun h => H.out h.1, _, rfl, OwnI.made _ hb.size⟩⟩
  have H := Lib.hid h
  clear h
  go_wp2_with fail
  refine (l03Joint_any k _).mono ?_
  rintro e w2 ⟨rfl, ⟨h, rfl⟩ | ⟨h, rfl⟩⟩
  case inr =>
    have H2 := Lib.hid h
    clear h
    go_wp2_with fail
    exact bodyPost_ret (results_tmp2 Try.results45 _ _ _) rfl ⟨al hb _, .inr ⟨fun h => H2.out h.2, _, rfl, OwnI.made _ hb.size⟩⟩
  have H2 := Lib.hid h
  clear h
  go_wp2_with fail
  refine (l03Joints_any A n cap c k _ H.out.1.1 H.out.1.2 ((HR.out.below hb).mono hb.size)).mono ?_
  rintro e w3 ⟨hb2, v, rfl, O⟩
  have hs := hb.size
  have B2 := nxt hb hb2
  clear hb hb2
  go_wp2_with fail
  exact bodyPost_ret (results_tmp2 Try.results45 _ _ _) rfl ⟨B2, .inl ⟨⟨H.out, H2.out⟩, v, rfl, O.mono hs⟩⟩

theorem impl_any (A : Option Addr) (n cap : Nat) (c : Nat → Int) (k : Int) (w : World) (hn : n ≤ 1048576) (hcap : n ≤ cap) (hr : RdK .i64 w w.heap.size A n c) :
    Calls Try.prog 46 #[.slice A n cap, .int .i64 k] w (Post (RowOk n c ∧ JointOk k) (jtL k c (n - 1)) w) := by
  have HR := Lib.hid hr
  clear hr
  go_enter Try.func46, Try.ntmps46
  go_wp2_with fail
  refine (isRow_any A n cap c _ hn HR.out).mono ?_
  rintro e w1 ⟨hb, ⟨h, rfl⟩ | ⟨h, rfl⟩⟩
  case inr =>
    have H := Lib.hid h
    clear h
    go_wp2_with fail
    exact bodyPost_ret (results_tmp2 Try.results46 _ _ _) rfl ⟨hb, .inr ⟨fun h => H.out h.1, _, rfl, OwnI.nil _ _⟩⟩
  have H := Lib.hid h
  clear h
  go_wp2_with fail
  refine (isJoint_any k _).mono ?_
  rintro e w2 ⟨rfl, ⟨h, rfl⟩ | ⟨h, rfl⟩⟩
  case inr =>
    have H2 := Lib.hid h
    clear h
    go_wp2_with fail
    exact bodyPost_ret (results_tmp2 Try.results46 _ _ _) rfl ⟨hb, .inr ⟨fun h => H2.out h.2, _, rfl, OwnI.nil _ _⟩⟩
  have H2 := Lib.hid h
  clear h
  obtain ⟨wo, rfl⟩ : ∃ wo : World, wo = w2 := ⟨_, rfl⟩
  have R1 := (HR.out.below hb).mono hb.size
  have hj := JF.new wo A n cap c k R1
  have HJ := Lib.hid hj
  clear R1 hj
  go_wp2_with fail
  refine (callsIn_wide.1 (jointsIn_in Fence.wide 7 trivial rfl .nilFunc A n cap k wo)).mono ?_
  rintro e w3 ⟨rfl, hw3⟩
  have B3 : Below wo.heap.size wo w3 := by rw [hw3]; exact al (al (Below.refl _ _) _) _
  have s3 : w3.heap.size = wo.heap.size + 2 := by rw [hw3]; simp
  rw [← hw3] at HJ
  clear hw3
  have h60 := H.out.1.2
  go_wp2_with fail
  refine (collect_any 164 _ (wo.heap.size + 2) (n - 1) (jtL k c (n - 1)) _ w3 (by omega) (by omega) (enters_of Try.func164 (by kernel_rfl) rfl)
    (fun w0 hb0 => joints_stops Fence.wide 6 trivial rfl (by omega) (wo.heap.size + 2) wo.heap.size (wo.heap.size + 1) A n cap c k H.out.1.1 H.out.1.2 hcap w0 (HJ.out.kp (kpN_below hb0 (by omega))) (by have := hb0.size; omega))).mono ?_
  rintro e w4 ⟨hb4, v, rfl, O⟩
  have hs := (nxt hb B3).size
  have B4 := nxt (nxt hb B3) hb4
  clear hb hb4 B3
  go_wp2_with fail
  exact bodyPost_ret (results_tmp2 Try.results46 _ _ _) rfl ⟨B4, .inl ⟨⟨H.out, H2.out⟩, v, rfl, O.mono hs⟩⟩

theorem both (n : Nat) (c : Nat → Int) (k : Int) (hc : ∀ j, (Lit.int .i64 (c j)).wf = true) (hn : n ≤ 1048576) (bk : (Lit.int .i64 k).wf = true) :
    ∃ (nn : Nat) (ff : Nat → Int) (z1 : Int), nn ≤ 1000 ∧
      (∀ (W : World) (G0 : Nat), Ar W G0 n c → Calls Try.prog 45 #[.slice (some ⟨G0, 0, none⟩) n n, .int .i64 k] W fun e w' => Below W.heap.size W w' ∧ ∃ v, e = .returned (.tuple #[v, .int .i64 z1]) ∧ HasSlice .i64 1 w' W.heap.size v nn ff) ∧
      (∀ (W : World) (G0 : Nat), Ar W G0 n c → Calls Try.prog 46 #[.slice (some ⟨G0, 0, none⟩) n n, .int .i64 k] W fun e w' => Below W.heap.size W w' ∧ ∃ v, e = .returned (.tuple #[v, .int .i64 z1]) ∧ HasSlice .i64 1 w' W.heap.size v nn ff) := by
  by_cases hg : RowOk n c ∧ JointOk k
  · refine ⟨(jtL k c (n - 1)).length, fun j => (jtL k c (n - 1)).getD j 0, 0, by rw [jtL_length]; have := hg.1.1.2; omega, fun W G R => (spec_any _ n n c k W hn R.rd).mono ?_, fun W G R => (impl_any _ n n c k W hn (Nat.le_refl _) R.rd).mono ?_⟩
    all_goals
      rintro e w' ⟨hb, ⟨_, v, he, o⟩ | ⟨h', _⟩⟩
      · exact ⟨hb, v, he, o.has⟩
      · exact absurd hg h'
  · refine ⟨0, fun j => ([] : List Int).getD j 0, 2, Nat.zero_le _, fun W G R => (spec_any _ n n c k W hn R.rd).mono ?_, fun W G R => (impl_any _ n n c k W hn (Nat.le_refl _) R.rd).mono ?_⟩
    all_goals
      rintro e w' ⟨hb, ⟨h', _⟩ | ⟨_, v, he, o⟩⟩
      · exact absurd h' hg
      · exact ⟨hb, v, he, o.has⟩
end jointsOf
end Go.Proofs.Ytjeccdmhpbaabaa
