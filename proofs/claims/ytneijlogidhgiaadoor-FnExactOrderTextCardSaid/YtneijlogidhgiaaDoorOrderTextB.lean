/-
  Both sides of OrderText answer the same; the walk of the law. Conditions stand at each.
-/
import Derived.Test.YtneijlogidhgiaaDoorRows
import Derived.Test.YtneijlogidhgiaaDoorOrdTxt
namespace Go.Proofs.YtneijlogidhgiaaDoor.orderText
open Go Go.ChangeShapes Go.WideShapes Go.ChangeAt Go.RowKit
set_option linter.unusedVariables false
set_option linter.unusedSimpArgs false
set_option maxRecDepth 100000
set_option maxHeartbeats 4000000
theorem key (n : Nat) (d : Nat → Int) : ∃ s : ByteArray, ∀ w e w', OrdPost n d w e w' → Below w.heap.size w w' ∧ e = .returned (.string s) := by
  by_cases h : OrdOk n d
  · refine ⟨bS (nL d n), ?_⟩
    rintro w e w' ⟨hb, ⟨-, rfl⟩ | ⟨h', -⟩⟩
    · exact ⟨hb, rfl⟩
    · exact absurd h h'
  · refine ⟨bS [], ?_⟩
    rintro w e w' ⟨hb, ⟨h', -⟩ | ⟨-, rfl⟩⟩
    · exact absurd h' h
    · exact ⟨hb, rfl⟩
theorem law (A : Option Addr) (n cap : Nat) (d : Nat → Int) (s : ByteArray) (w : World) (hn : n ≤ 1048576) (hr : RdK .i64 w w.heap.size A n d) (hT : TabP w)
    (hS : ∀ (W : World) (G : Nat), Ar W G n d → Calls Tryd.prog 11 #[.slice (some ⟨G, 0, none⟩) n n] W fun e w' => Below W.heap.size W w' ∧ e = .returned (.string s))
    (hI : ∀ (W : World) (G : Nat), TabP W → Ar W G n d → Calls Tryd.prog 13 #[.slice (some ⟨G, 0, none⟩) n n] W fun e w' => Below W.heap.size W w' ∧ e = .returned (.string s)) :
    Calls Tryd.prog 4 #[.slice A n cap] w fun e w' => e = .returned (.bool true) ∧ Below w.heap.size w w' := by
  have HS := Lib.hid hS
  have HI := Lib.hid hI
  have HR := Lib.hid hr
  have HT := Lib.hid hT
  have hk1 : ¬ ((1048576 : Int) < (n : Int)) := by omega
  have B : Below w.heap.size w w := Below.refl _ _
  clear hS hI hr hT
  go_enter Tryd.func4, Tryd.ntmps4
  go_wp2_with fail
  refine (toInt64S_any A n cap w.heap.size d _ (by omega) B.size (HR.out.below B)).mono ?_
  rintro e w2 ⟨g1, rfl, hg, hb, X1⟩
  replace B := nxt B hb
  clear hb hg
  go_wp2_with fail
  refine (HS.out _ g1 X1).mono ?_
  rintro e w3 ⟨hb, rfl⟩
  replace B := nxt B hb
  clear hb X1
  go_wp2_with fail
  refine (toInt64S_any A n cap w.heap.size d _ (by omega) B.size (HR.out.below B)).mono ?_
  rintro e w4 ⟨g2, rfl, hg, hb, X2⟩
  replace B := nxt B hb
  clear hb hg
  go_wp2_with fail
  refine (HI.out _ g2 (HT.out.below B) X2).mono ?_
  rintro e w5 ⟨hb, rfl⟩
  replace X2 := X2.below hb
  replace B := nxt B hb
  clear hb
  go_wp2_with fail
  refine (toInt64S_any A n cap w.heap.size d _ (by omega) B.size (HR.out.below B)).mono ?_
  rintro e w6 ⟨g3, rfl, hg, hb, X3⟩
  replace X2 := X2.below hb
  replace B := nxt B hb
  clear hb hg
  go_wp2_with fail
  refine (eqInt64S_any (some ⟨g2, 0, none⟩) (some ⟨g3, 0, none⟩) n n n n _ d d _ (by omega) (by omega) (Nat.le_refl _) X2.rd X3.rd ⟨rfl, fun _ _ => rfl⟩).mono ?_
  rintro e w7 ⟨rfl, hb⟩
  replace B := nxt B hb
  clear hb X2 X3
  go_wp2
  go_ret
  exact ⟨rfl, B⟩
theorem walk (A : Option Addr) (n cap : Nat) (d : Nat → Int) (w : World) (hm : n ≤ 9223372036854775807) (hr : RdK .i64 w w.heap.size A n d) (hwf : ∀ j, (Lit.int .i64 (d j)).wf = true) (hT : TabP w) :
    Calls Tryd.prog 4 #[.slice A n cap] w fun e w' => e = .returned (.bool true) ∧ Below w.heap.size w w' := by
  by_cases hn : 1048576 < n
  · have hk1 : (1048576 : Int) < (n : Int) := by omega
    clear hr hT hwf
    go_enter Tryd.func4, Tryd.ntmps4
    go_wp2
    go_ret
    exact ⟨rfl, Below.refl _ _⟩
  obtain ⟨s, h⟩ := key n d
  exact law A n cap d s w (by omega) hr hT (fun W G R => (specOrder_any _ n n d W (by omega) R.rd).mono (h W)) (fun W G hT R => (implOrder_any _ n n d W (by omega) R.rd hT).mono (h W))
end Go.Proofs.YtneijlogidhgiaaDoor.orderText
