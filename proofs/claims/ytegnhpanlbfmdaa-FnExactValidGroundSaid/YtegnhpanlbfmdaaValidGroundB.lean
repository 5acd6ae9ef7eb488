/-
  Both sides of ValidGround answer the same. Conditions stand at each.
-/
import Derived.Test.YtegnhpanlbfmdaaRows
import Derived.Test.YtegnhpanlbfmdaaGndV
namespace Go.Proofs.Ytegnhpanlbfmdaa.validGround
open Go Go.ChangeShapes Go.WideShapes Go.ChangeAt Go.RowKit
set_option linter.unusedVariables false
set_option linter.unusedSimpArgs false
set_option maxRecDepth 100000
set_option maxHeartbeats 2000000

theorem spec_any (X Y : Int) (h : Nat → Int) (g n : Nat) (c : Nat → Int) (w : World) (hX : -128 ≤ X ∧ X ≤ 127) (hY : -128 ≤ Y ∧ Y ≤ 127) (hh : ∀ p, -32768 ≤ h p ∧ h p ≤ 32767) (hc : ∀ j, -128 ≤ c j ∧ c j ≤ 127) (hm : n ≤ 1048576) (hA : Ac w g n c) :
    Calls Try.prog 26 #[.agg (gV X Y h (.slice (some ⟨g, 0, none⟩) n n))] w (GvPost X Y h n c w) := by
  go_enter Try.func26, Try.ntmps26
  go_wp2_with fail
  have X1 := Bx.new w (gV X Y h (.slice (some ⟨g, 0, none⟩) n n)) 33
  have B := al (Below.refl w.heap.size w) (.cells (gV X Y h (.slice (some ⟨g, 0, none⟩) n n)) 33)
  refine (gok_any X Y h w.heap.size _ n n c _ hX hY hh hc hm X1 (hA.alloc _).rd).mono ?_
  rintro e w1 ⟨hb, ⟨hv, rfl⟩ | ⟨hv, rfl⟩⟩
  · replace B := nxt B hb
    have HV := Lib.hid hv
    clear hb hv
    go_wp2
    go_ret
    exact ⟨B, .inl ⟨HV.out, rfl⟩⟩
  · replace B := nxt B hb
    have HV := Lib.hid hv
    clear hb hv
    go_wp2
    go_ret
    exact ⟨B, .inr ⟨HV.out, rfl⟩⟩

theorem both (X Y : Int) (h : Nat → Int) (n : Nat) (c : Nat → Int) (hX : -128 ≤ X ∧ X ≤ 127) (hY : -128 ≤ Y ∧ Y ≤ 127) (hh : ∀ p, -32768 ≤ h p ∧ h p ≤ 32767) (hc : ∀ j, -128 ≤ c j ∧ c j ≤ 127) (hm : n ≤ 1048576) :
    ∃ z : Bool, (∀ (W : World) (g : Nat), Ac W g n c → Calls Try.prog 26 #[.agg (gV X Y h (.slice (some ⟨g, 0, none⟩) n n))] W fun e w' => Below W.heap.size W w' ∧ e = .returned (.bool z)) ∧
      (∀ (W : World) (g : Nat), Ac W g n c → Calls Try.prog 28 #[.agg (gV X Y h (.slice (some ⟨g, 0, none⟩) n n))] W fun e w' => Below W.heap.size W w' ∧ e = .returned (.bool z)) := by
  by_cases hv : GValid X Y h n c
  · exact ⟨true, fun W g A => (spec_any X Y h g n c W hX hY hh hc hm A).mono fun e w' hp => ⟨hp.1, hp.2.elim (fun k => k.2) (fun k => absurd hv k.1)⟩,
      fun W g A => (implGV_any X Y h g n c W hX hY hh hc hm A).mono fun e w' hp => ⟨hp.1, hp.2.elim (fun k => k.2) (fun k => absurd hv k.1)⟩⟩
  · exact ⟨false, fun W g A => (spec_any X Y h g n c W hX hY hh hc hm A).mono fun e w' hp => ⟨hp.1, hp.2.elim (fun k => absurd k.1 hv) (fun k => k.2)⟩,
      fun W g A => (implGV_any X Y h g n c W hX hY hh hc hm A).mono fun e w' hp => ⟨hp.1, hp.2.elim (fun k => absurd k.1 hv) (fun k => k.2)⟩⟩
end Go.Proofs.Ytegnhpanlbfmdaa.validGround
