/-
  Both sides of CheckPlan answer the same; the walk of the law. Conditions stand at each.
-/
import Derived.Test.YtfpoikeibjojgaaDoorRows
import Derived.Test.YtfpoikeibjojgaaDoorCheckPlanP
import Derived.Test.YtfpoikeibjojgaaDoorGangA
import Derived.Test.YtfpoikeibjojgaaDoorDoorF
namespace Go.Proofs.YtfpoikeibjojgaaDoor.checkPlan
open Go Go.ChangeShapes Go.WideShapes Go.ChangeAt Go.RowKit
set_option linter.unusedVariables false
set_option linter.unusedSimpArgs false
set_option maxRecDepth 100000
set_option maxHeartbeats 8000000
theorem key (n : Nat) (c d : Nat → Int) (m : Nat) (g : Gs) (k : Nat) (pl : Nat → Int) : ∃ (z : Bool) (r : Int), ∀ w e w', CkPost n c d m g k pl w e w' → Below w.heap.size w w' ∧ e = .returned (.tuple #[.bool z, .int .i64 r]) := by
  by_cases hO : JobOk n c d m g
  · obtain ⟨z, hz⟩ := dec_ex (RightP n c m g k pl)
    refine ⟨z, 0, ?_⟩
    rintro w e w' ⟨hb, ⟨r, hr, hj, -⟩ | ⟨-, z', hz', rfl⟩⟩
    · exact absurd (hj.one hO.code0) hr
    · obtain rfl : z' = z := Bool.eq_iff_iff.2 (hz'.trans hz.symm)
      exact ⟨hb, rfl⟩
  · by_cases hex : ∃ r : Int, JobCode n c d m g r
    · obtain ⟨r, hr⟩ := hex
      refine ⟨false, r, ?_⟩
      rintro w e w' ⟨hb, ⟨r', -, hj, rfl⟩ | ⟨h, -⟩⟩
      · obtain rfl := hj.one hr
        exact ⟨hb, rfl⟩
      · exact absurd h hO
    · refine ⟨false, 0, ?_⟩
      rintro w e w' ⟨hb, ⟨r', -, hj, -⟩ | ⟨h, -⟩⟩
      · exact absurd ⟨r', hj⟩ hex
      · exact absurd h hO
theorem both (n : Nat) (c d : Nat → Int) (m : Nat) (g : Gs) (k : Nat) (pl : Nat → Int) (hn : n ≤ 1048576) (hm : m ≤ 1048576) (hk : k ≤ 1048576) (hc : ∀ j, -128 ≤ c j ∧ c j ≤ 127) (hd : ∀ j, -32768 ≤ d j ∧ d j ≤ 32767) (hgb : g.bd) :
    ∃ (z : Bool) (r : Int), (∀ (W : World) (G0 G1 G2 : Nat), As W G0 n c d → ArG W G1 m g → Ar W G2 k pl → Calls Tryd.prog 18 #[.slice (some ⟨G0, 0, none⟩) n n, .slice (some ⟨G1, 0, none⟩) m m, .slice (some ⟨G2, 0, none⟩) k k] W fun e w' => Below W.heap.size W w' ∧ e = .returned (.tuple #[.bool z, .int .i64 r])) ∧
      (∀ (W : World) (G0 G1 G2 : Nat), ErrT W → As W G0 n c d → ArG W G1 m g → Ar W G2 k pl → Calls Tryd.prog 22 #[.slice (some ⟨G0, 0, none⟩) n n, .slice (some ⟨G1, 0, none⟩) m m, .slice (some ⟨G2, 0, none⟩) k k] W fun e w' => Below W.heap.size W w' ∧ e = .returned (.tuple #[.bool z, .int .i64 r])) := by
  obtain ⟨z, r, h⟩ := key n c d m g k pl
  exact ⟨z, r, fun W G0 G1 G2 R0 R1 R2 => (specCheckPlan_any _ n n c d _ m m g _ k k pl W hn hm hk R0.rd R1.rd R2.rd hc hd hgb).mono (h W), fun W G0 G1 G2 hE R0 R1 R2 => (implCheckPlan_any _ n n c d _ m m g _ k k pl W hn hm hk R0.rd R1.rd R2.rd hc hd hgb hE).mono (h W)⟩
theorem law (A : Option Addr) (n cap : Nat) (c d : Nat → Int) (A' : Option Addr) (m cap' : Nat) (g : Gs) (P : Option Addr) (k cap'' : Nat) (pl : Nat → Int) (z : Bool) (r : Int) (w : World) (hnm : n + m ≤ 1048576) (hk : k ≤ 1048576)
    (hr : RdS w w.heap.size A n c d) (hg : RdG w w.heap.size A' m g) (hp : RdK .i64 w w.heap.size P k pl) (hE : ErrT w)
    (hS : (∀ (W : World) (G0 G1 G2 : Nat), As W G0 n c d → ArG W G1 m g → Ar W G2 k pl → Calls Tryd.prog 18 #[.slice (some ⟨G0, 0, none⟩) n n, .slice (some ⟨G1, 0, none⟩) m m, .slice (some ⟨G2, 0, none⟩) k k] W fun e w' => Below W.heap.size W w' ∧ e = .returned (.tuple #[.bool z, .int .i64 r])))
    (hI : (∀ (W : World) (G0 G1 G2 : Nat), ErrT W → As W G0 n c d → ArG W G1 m g → Ar W G2 k pl → Calls Tryd.prog 22 #[.slice (some ⟨G0, 0, none⟩) n n, .slice (some ⟨G1, 0, none⟩) m m, .slice (some ⟨G2, 0, none⟩) k k] W fun e w' => Below W.heap.size W w' ∧ e = .returned (.tuple #[.bool z, .int .i64 r]))) :
    Calls Tryd.prog 4 #[.slice A n cap, .slice A' m cap', .slice P k cap''] w fun e w' => e = .returned (.bool true) ∧ Below w.heap.size w w' := by
  have HS := Lib.hid hS
  have HI := Lib.hid hI
  have HR := Lib.hid hr
  have HG := Lib.hid hg
  have HP := Lib.hid hp
  have hz1 : 0 ≤ 1048576 - (n : Int) := by omega
  have hz2 : ¬ (1048576 - (n : Int) < 0) := by omega
  have hz3 : 0 ≤ 1048576 - (n : Int) - (m : Int) := by omega
  have hz4 : ¬ (1048576 - (n : Int) - (m : Int) < 0) := by omega
  have hk1 : ¬ ((1048576 : Int) < (k : Int)) := by omega
  have hzz : (z != z) = false := by simp
  have hrr : (r != r) = false := by simp
  have B : Below w.heap.size w w := Below.refl _ _
  have HE := Lib.hid hE
  clear hS hI hr hg hp hE
  go_enter Tryd.func4, Tryd.ntmps4
  go_wp2_with fail
  refine (szRowS_ok A n cap 1048576 _ (by omega) (by omega) (by omega)).mono ?_
  rintro e w1 ⟨rfl, rfl⟩
  go_wp2_with fail
  refine (szGangS_ok A' m cap' (1048576 - (n : Int)) _ (by omega) (by omega) (by omega)).mono ?_
  rintro e w1 ⟨rfl, rfl⟩
  go_wp2_with fail
  refine (toRowS_any A n cap w.heap.size c d _ (by omega) B.size (HR.out.below B)).mono ?_
  rintro e w2 ⟨g1, rfl, hg, hb, X1⟩
  replace B := nxt B hb
  clear hb hg
  go_wp2_with fail
  refine (toGangS_any A' m cap' w.heap.size g _ (by omega) B.size (HG.out.below B)).mono ?_
  rintro e w3 ⟨g2, rfl, hg, hb, X2⟩
  replace X1 := X1.below hb
  replace B := nxt B hb
  clear hb hg
  go_wp2_with fail
  refine (toInt64S_any P k cap'' w.heap.size pl _ (by omega) B.size (HP.out.below B)).mono ?_
  rintro e w4 ⟨g3, rfl, hg, hb, X3⟩
  replace X1 := X1.below hb
  replace X2 := X2.below hb
  replace B := nxt B hb
  clear hb hg
  go_wp2_with fail
  refine (HS.out _ g1 g2 g3 X1 X2 X3).mono ?_
  rintro e w' ⟨hb, rfl⟩
  replace X1 := X1.below hb
  replace X2 := X2.below hb
  replace X3 := X3.below hb
  replace B := nxt B hb
  clear hb
  obtain ⟨ww, hww⟩ : ∃ ww : World, ww = w' := ⟨_, rfl⟩
  clear hww ww
  clear X1 X2 X3
  go_wp2_with fail
  refine (toRowS_any A n cap w.heap.size c d _ (by omega) B.size (HR.out.below B)).mono ?_
  rintro e w5 ⟨g4, rfl, hg, hb, X4⟩
  replace B := nxt B hb
  clear hb hg
  go_wp2_with fail
  refine (toGangS_any A' m cap' w.heap.size g _ (by omega) B.size (HG.out.below B)).mono ?_
  rintro e w6 ⟨g5, rfl, hg, hb, X5⟩
  replace X4 := X4.below hb
  replace B := nxt B hb
  clear hb hg
  go_wp2_with fail
  refine (toInt64S_any P k cap'' w.heap.size pl _ (by omega) B.size (HP.out.below B)).mono ?_
  rintro e w7 ⟨g6, rfl, hg, hb, X6⟩
  replace X4 := X4.below hb
  replace X5 := X5.below hb
  replace B := nxt B hb
  clear hb hg
  go_wp2_with fail
  refine (HI.out _ g4 g5 g6 (HE.out.below B) X4 X5 X6).mono ?_
  rintro e w' ⟨hb, rfl⟩
  replace X4 := X4.below hb
  replace X5 := X5.below hb
  replace X6 := X6.below hb
  replace B := nxt B hb
  clear hb
  obtain ⟨ww, hww⟩ : ∃ ww : World, ww = w' := ⟨_, rfl⟩
  clear hww ww
  go_wp2_with fail
  refine (toRowS_any A n cap w.heap.size c d _ (by omega) B.size (HR.out.below B)).mono ?_
  rintro e w8 ⟨g7, rfl, hg, hb, X7⟩
  replace X4 := X4.below hb
  replace X5 := X5.below hb
  replace X6 := X6.below hb
  replace B := nxt B hb
  clear hb hg
  go_wp2_with fail
  refine (eqRowS_any (some ⟨g4, 0, none⟩) (some ⟨g7, 0, none⟩) n n n n _ c d c d _ (by omega) (by omega) (Nat.le_refl _) X4.rd X7.rd ⟨rfl, fun _ _ => ⟨rfl, rfl⟩⟩).mono ?_
  rintro e w' ⟨rfl, hb⟩
  replace X4 := X4.below hb
  replace X5 := X5.below hb
  replace X6 := X6.below hb
  replace X7 := X7.below hb
  replace B := nxt B hb
  clear hb
  obtain ⟨ww, hww⟩ : ∃ ww : World, ww = w' := ⟨_, rfl⟩
  clear hww ww
  clear X4 X7
  go_wp2_with fail
  refine (toGangS_any A' m cap' w.heap.size g _ (by omega) B.size (HG.out.below B)).mono ?_
  rintro e w9 ⟨g8, rfl, hg, hb, X8⟩
  replace X5 := X5.below hb
  replace X6 := X6.below hb
  replace B := nxt B hb
  clear hb hg
  go_wp2_with fail
  refine (eqGangS_any (some ⟨g5, 0, none⟩) (some ⟨g8, 0, none⟩) m m m _ g _ (by omega) (Nat.le_refl _) X5.rd X8.rd).mono ?_
  rintro e w' ⟨rfl, hb⟩
  replace X5 := X5.below hb
  replace X6 := X6.below hb
  replace X8 := X8.below hb
  replace B := nxt B hb
  clear hb
  obtain ⟨ww, hww⟩ : ∃ ww : World, ww = w' := ⟨_, rfl⟩
  clear hww ww
  clear X5 X8
  go_wp2_with fail
  refine (toInt64S_any P k cap'' w.heap.size pl _ (by omega) B.size (HP.out.below B)).mono ?_
  rintro e w10 ⟨g9, rfl, hg, hb, X9⟩
  replace X6 := X6.below hb
  replace B := nxt B hb
  clear hb hg
  go_wp2_with fail
  refine (eqInt64S_any (some ⟨g6, 0, none⟩) (some ⟨g9, 0, none⟩) k k k k _ pl pl _ (by omega) (by omega) (Nat.le_refl _) X6.rd X9.rd ⟨rfl, fun _ _ => rfl⟩).mono ?_
  rintro e w' ⟨rfl, hb⟩
  replace X6 := X6.below hb
  replace X9 := X9.below hb
  replace B := nxt B hb
  clear hb
  obtain ⟨ww, hww⟩ : ∃ ww : World, ww = w' := ⟨_, rfl⟩
  clear hww ww
  clear X6 X9
  go_wp2
  go_ret
  exact ⟨rfl, B⟩
theorem walk (A : Option Addr) (n cap : Nat) (c d : Nat → Int) (A' : Option Addr) (m cap' : Nat) (g : Gs) (P : Option Addr) (k cap'' : Nat) (pl : Nat → Int) (w : World)
    (hm0 : n ≤ 9223372036854775807) (hr : RdS w w.heap.size A n c d) (hc : ∀ j, -128 ≤ c j ∧ c j ≤ 127) (hd : ∀ j, -32768 ≤ d j ∧ d j ≤ 32767) (hm1 : m ≤ 9223372036854775807) (hg : RdG w w.heap.size A' m g) (hgb : g.bd)
    (hm2 : k ≤ 9223372036854775807) (hp : RdK .i64 w w.heap.size P k pl) (hwf : ∀ j, (Lit.int .i64 (pl j)).wf = true) (hE : ErrT w) :
    Calls Tryd.prog 4 #[.slice A n cap, .slice A' m cap', .slice P k cap''] w fun e w' => e = .returned (.bool true) ∧ Below w.heap.size w w' := by
  by_cases hk : 1048576 < k
  · have hk1 : (1048576 : Int) < (k : Int) := by omega
    clear hr hg hp hc hd hgb hwf hE
    go_enter Tryd.func4, Tryd.ntmps4
    go_wp2
    go_ret
    exact ⟨rfl, Below.refl _ _⟩
  have hk1 : ¬ ((1048576 : Int) < (k : Int)) := by omega
  by_cases hn : 1048576 < n
  · have HZ := Lib.hid (fun W => szRowS_big A n cap 1048576 W (by omega) (by omega) (by omega) hm0)
    clear hr hg hp hc hd hgb hwf hE hn hk
    go_enter Tryd.func4, Tryd.ntmps4
    go_wp2_with fail
    refine (HZ.out _).mono ?_
    rintro e w1 ⟨rfl, rfl⟩
    go_wp2
    go_ret
    exact ⟨rfl, Below.refl _ _⟩
  by_cases hm : 1048576 < n + m
  · have HZ := Lib.hid (fun W => szRowS_ok A n cap 1048576 W (by omega) (by omega) (by omega))
    have HY := Lib.hid (fun W => szGangS_big A' m cap' (1048576 - (n : Int)) W (by omega) (by omega) (by omega) hm1)
    have hz1 : 0 ≤ 1048576 - (n : Int) := by omega
    have hz2 : ¬ (1048576 - (n : Int) < 0) := by omega
    clear hr hg hp hc hd hgb hwf hE hn hk
    go_enter Tryd.func4, Tryd.ntmps4
    go_wp2_with fail
    refine (HZ.out _).mono ?_
    rintro e w1 ⟨rfl, rfl⟩
    go_wp2_with fail
    refine (HY.out _).mono ?_
    rintro e w1 ⟨rfl, rfl⟩
    go_wp2
    go_ret
    exact ⟨rfl, Below.refl _ _⟩
  obtain ⟨z, r, hS, hI⟩ := both n c d m g k pl (by omega) (by omega) (by omega) hc hd hgb
  exact law A n cap c d A' m cap' g P k cap'' pl z r w (by omega) (by omega) hr hg hp hE hS hI
end Go.Proofs.YtfpoikeibjojgaaDoor.checkPlan
