/-
  The walk of the law FnExactValidMix. Conditions stand at each.
-/
import Derived.Test.YtgpnimbgckajlaaRows
import Derived.Test.YtgpnimbgckajlaaMixI
namespace Go.Proofs.Ytgpnimbgckajlaa.validMix
open Go Go.ChangeShapes Go.WideShapes Go.ChangeAt Go.RowKit
set_option linter.unusedVariables false
set_option linter.unusedSimpArgs false
set_option maxRecDepth 100000
set_option maxHeartbeats 4000000
theorem walk (a b d : Int) (w : World) (ba : -32768 ≤ a ∧ a ≤ 32767) (bb : -32768 ≤ b ∧ b ≤ 32767) (bd : -32768 ≤ d ∧ d ≤ 32767) :
    Calls Try.prog 7 #[.agg #[.int .i16 a, .int .i16 b, .int .i16 d]] w fun e w' => e = .returned (.bool true) ∧ Below w.heap.size w w' := by
  obtain ⟨m, rfl, rfl, rfl⟩ : ∃ m : Nat → Int, m 0 = a ∧ m 1 = b ∧ m 2 = d := ⟨fun j => if j = 0 then a else if j = 1 then b else d, rfl, rfl, rfl⟩
  have h16 : In16 m := fun j hj => by
    obtain rfl | rfl | rfl : j = 0 ∨ j = 1 ∨ j = 2 := by omega
    · exact ba
    · exact bb
    · exact bd
  obtain ⟨r, hr⟩ := dec_ex (MixOk m)
  have HS := Lib.hid (fun W => specMix_any m r W h16 hr)
  have HI := Lib.hid (fun W => implMix_any m r W h16 hr)
  have HT := Lib.hid (fun W => toMix_any m W)
  have hrr : (r != r) = false := by simp
  have HX := Bx.new w (mixC m) 42
  have B := al (Below.refl w.heap.size w) (.cells (mixC m) 42)
  clear hr
  go_enter Try.func7, Try.ntmps7
  go_wp2_with fail
  refine (HT.out _).mono ?_
  rintro e w1 ⟨hb, rfl⟩
  replace HX := HX.below hb
  replace B := nxt B hb
  clear hb
  go_wp2_with fail
  refine (HS.out _).mono ?_
  rintro e w2 ⟨hb, rfl⟩
  replace HX := HX.below hb
  replace B := nxt B hb
  clear hb
  obtain ⟨c0, c1, c2⟩ := HX.mix3
  go_wp2_with fail
  refine (HT.out _).mono ?_
  rintro e w3 ⟨hb, rfl⟩
  replace B := nxt B hb
  clear hb
  go_wp2_with fail
  refine (HI.out _).mono ?_
  rintro e w4 ⟨hb, rfl⟩
  replace B := nxt B hb
  clear hb
  go_wp2_with fail
  go_ret
  exact ⟨rfl, B⟩
end Go.Proofs.Ytgpnimbgckajlaa.validMix
