/-
  Both sides of SettsText answer the same; the walk of the law. Conditions stand at each.
-/
import Derived.Test.YtneijlogidhgiaaDoorRows
import Derived.Test.YtneijlogidhgiaaDoorSTextI
namespace Go.Proofs.YtneijlogidhgiaaDoor.settsText
open Go Go.ChangeShapes Go.WideShapes Go.ChangeAt Go.RowKit
set_option linter.unusedVariables false
set_option linter.unusedSimpArgs false
set_option maxRecDepth 100000
set_option maxHeartbeats 4000000
theorem key (n : Nat) (c d : Nat → Int) : ∃ s : ByteArray, ∀ w e w', TextPost n c d w e w' → Below w.heap.size w w' ∧ e = .returned (.string s) := by
  by_cases h : SOk n c d
  · refine ⟨bS (tL c d n), ?_⟩
    rintro w e w' ⟨hb, ⟨-, rfl⟩ | ⟨h', -⟩⟩
    · exact ⟨hb, rfl⟩
    · exact absurd h h'
  · refine ⟨bS [], ?_⟩
    rintro w e w' ⟨hb, ⟨h', -⟩ | ⟨-, rfl⟩⟩
    · exact absurd h' h
    · exact ⟨hb, rfl⟩
theorem both (n : Nat) (c d : Nat → Int) (hn : n ≤ 1048576) (hc : ∀ j, -128 ≤ c j ∧ c j ≤ 127) (hd : ∀ j, -32768 ≤ d j ∧ d j ≤ 32767) :
    ∃ s : ByteArray, (∀ (W : World) (G : Nat), As W G n c d → Calls Tryd.prog 7 #[.slice (some ⟨G, 0, none⟩) n n] W fun e w' => Below W.heap.size W w' ∧ e = .returned (.string s)) ∧
      (∀ (W : World) (G : Nat), TabP W → As W G n c d → Calls Tryd.prog 9 #[.slice (some ⟨G, 0, none⟩) n n] W fun e w' => Below W.heap.size W w' ∧ e = .returned (.string s)) := by
  obtain ⟨s, h⟩ := key n c d
  exact ⟨s, fun W G R => (specText_any _ n n c d W hn R.rd hc hd).mono (h W), fun W G hT R => (implText_any _ n n c d W hn R.rd hc hd hT).mono (h W)⟩
theorem law (A : Option Addr) (n cap : Nat) (c d : Nat → Int) (s : ByteArray) (w : World) (hn : n ≤ 1048576) (hr : RdS w w.heap.size A n c d) (hT : TabP w)
    (hS : ∀ (W : World) (G : Nat), As W G n c d → Calls Tryd.prog 7 #[.slice (some ⟨G, 0, none⟩) n n] W fun e w' => Below W.heap.size W w' ∧ e = .returned (.string s))
    (hI : ∀ (W : World) (G : Nat), TabP W → As W G n c d → Calls Tryd.prog 9 #[.slice (some ⟨G, 0, none⟩) n n] W fun e w' => Below W.heap.size W w' ∧ e = .returned (.string s)) :
    Calls Tryd.prog 3 #[.slice A n cap] w fun e w' => e = .returned (.bool true) ∧ Below w.heap.size w w' := by
  have HS := Lib.hid hS
  have HI := Lib.hid hI
  have HR := Lib.hid hr
  have HT := Lib.hid hT
  have hz1 : 0 ≤ 1048576 - (n : Int) := by omega
  have hz2 : ¬ (1048576 - (n : Int) < 0) := by omega
  have B : Below w.heap.size w w := Below.refl _ _
  clear hS hI hr hT
  go_enter Tryd.func3, Tryd.ntmps3
  go_wp2_with fail
  refine (szSettS_ok A n cap 1048576 _ (by omega) (by omega) (by omega)).mono ?_
  rintro e w1 ⟨rfl, rfl⟩
  go_wp2_with fail
  refine (toSettS_any A n cap w.heap.size c d _ (by omega) B.size (HR.out.below B)).mono ?_
  rintro e w2 ⟨g1, rfl, hg, hb, X1⟩
  replace B := nxt B hb
  clear hb hg
  go_wp2_with fail
  refine (HS.out _ g1 X1).mono ?_
  rintro e w3 ⟨hb, rfl⟩
  replace B := nxt B hb
  clear hb X1
  go_wp2_with fail
  refine (toSettS_any A n cap w.heap.size c d _ (by omega) B.size (HR.out.below B)).mono ?_
  rintro e w4 ⟨g2, rfl, hg, hb, X2⟩
  replace B := nxt B hb
  clear hb hg
  go_wp2_with fail
  refine (HI.out _ g2 (HT.out.below B) X2).mono ?_
  rintro e w5 ⟨hb, rfl⟩
  replace X2 := X2.below hb
  replace B := nxt B hb
  clear hb
  go_wp2_with fail
  refine (toSettS_any A n cap w.heap.size c d _ (by omega) B.size (HR.out.below B)).mono ?_
  rintro e w6 ⟨g3, rfl, hg, hb, X3⟩
  replace X2 := X2.below hb
  replace B := nxt B hb
  clear hb hg
  go_wp2_with fail
  refine (eqSettS_any (some ⟨g2, 0, none⟩) (some ⟨g3, 0, none⟩) n n n n _ c d c d _ (by omega) (by omega) (Nat.le_refl _) X2.rd X3.rd ⟨rfl, fun _ _ => ⟨rfl, rfl⟩⟩).mono ?_
  rintro e w7 ⟨rfl, hb⟩
  replace B := nxt B hb
  clear hb X2 X3
  go_wp2
  go_ret
  exact ⟨rfl, B⟩
theorem walk (A : Option Addr) (n cap : Nat) (c d : Nat → Int) (w : World) (hm : n ≤ 9223372036854775807) (hr : RdS w w.heap.size A n c d) (hc : ∀ j, -128 ≤ c j ∧ c j ≤ 127) (hd : ∀ j, -32768 ≤ d j ∧ d j ≤ 32767) (hT : TabP w) :
    Calls Tryd.prog 3 #[.slice A n cap] w fun e w' => e = .returned (.bool true) ∧ Below w.heap.size w w' := by
  by_cases hn : 1048576 < n
  · have HZ := Lib.hid (fun W => szSettS_big A n cap 1048576 W (by omega) (by omega) (by omega) hm)
    clear hr hc hd hT hn hm
    go_enter Tryd.func3, Tryd.ntmps3
    go_wp2_with fail
    refine (HZ.out _).mono ?_
    rintro e w1 ⟨rfl, rfl⟩
    go_wp2
    go_ret
    exact ⟨rfl, Below.refl _ _⟩
  obtain ⟨s, hS, hI⟩ := both n c d (by omega) hc hd
  exact law A n cap c d s w (by omega) hr hT hS hI
end Go.Proofs.YtneijlogidhgiaaDoor.settsText
