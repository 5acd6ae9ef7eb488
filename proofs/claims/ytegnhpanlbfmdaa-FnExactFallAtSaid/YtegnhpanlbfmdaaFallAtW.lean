/-
  The walk of the law FnExactFallAt. Conditions stand at each.
-/
import Derived.Test.YtegnhpanlbfmdaaRows
import Derived.Test.YtegnhpanlbfmdaaGndT
import Derived.Test.YtegnhpanlbfmdaaGndA
import Derived.Test.YtegnhpanlbfmdaaFallAtB
import Derived.Deep.RegionHeld3
import Derived.Deep.DeepCutAuto
import Derived.Lib.SmallJoins
namespace Go.Proofs.Ytegnhpanlbfmdaa.fallAt
open Go Go.ChangeShapes Go.WideShapes Go.ChangeAt Go.RowKit
set_option linter.unusedVariables false
set_option linter.unusedSimpArgs false
set_option maxRecDepth 100000
set_option maxHeartbeats 4000000

theorem law (X0 Y0 : Int) (h0 : Nat → Int) (A0 : Option Addr) (n0 ca0 : Nat) (c0 : Nat → Int) (a1 b1 : Int) (p0 q0 : Int) (z1 : Int) (z2 : Int) (w : World) (hn0 : n0 ≤ 1048576)
    (hr0 : RdK .i8 w w.heap.size A0 (2 * n0) c0)
    (hS : ∀ (W : World) (G0 : Nat), w.heap.size ≤ W.heap.size → Ac W G0 n0 c0 → 
      Calls Try.prog 32 #[.agg (gV X0 Y0 h0 (.slice (some ⟨G0, 0, none⟩) n0 n0)), .agg #[.int .i8 a1, .int .i8 b1]] W fun e w' => Below W.heap.size W w' ∧ e = .returned (.tuple #[.agg #[.int .i8 p0, .int .i8 q0], .int .i64 z1, .int .i64 z2]))
    (hI : ∀ (W : World) (G0 : Nat), w.heap.size ≤ W.heap.size → Ac W G0 n0 c0 → 
      Calls Try.prog 34 #[.agg (gV X0 Y0 h0 (.slice (some ⟨G0, 0, none⟩) n0 n0)), .agg #[.int .i8 a1, .int .i8 b1]] W fun e w' => Below W.heap.size W w' ∧ e = .returned (.tuple #[.agg #[.int .i8 p0, .int .i8 q0], .int .i64 z1, .int .i64 z2])) :
    Calls Try.prog 5 #[.agg (gV X0 Y0 h0 (.slice A0 n0 ca0)), .agg #[.int .i8 a1, .int .i8 b1]] w fun e w' => e = .returned (.bool true) ∧ Below w.heap.size w w' := by
  have HS := Lib.hid hS
  have HI := Lib.hid hI
  have HW := Nat.le_refl w.heap.size
  have HR0 := Lib.hid hr0
  have hz0 : 0 ≤ 1048576 - (n0 : Int) := by omega
  have hrr1 : (z1 != z1) = false := by simp
  have hrr2 : (z2 != z2) = false := by simp
  have B : Below w.heap.size w w := Below.refl _ _
  clear hS hI HW hr0
  go_enter Try.func5, Try.ntmps5
  have P0 := ((Bx.new w (gV X0 Y0 h0 (.slice A0 n0 ca0)) 28).alloc (Obj.cells #[.int .i8 a1, .int .i8 b1] 39))
  have P1 := (Bx.newAt (w.alloc (Obj.cells (gV X0 Y0 h0 (.slice A0 n0 ca0)) 28)) (w.heap.size + 1) #[.int .i8 a1, .int .i8 b1] 39 (by simp))
  replace B := (al (al B (Obj.cells (gV X0 Y0 h0 (.slice A0 n0 ca0)) 28)) (Obj.cells #[.int .i8 a1, .int .i8 b1] 39))
  go_wp2_with (refine wpList_load_box P0 rfl _ _ rfl rfl _ Try.underlying28 rfl (infoLGv _ _ _ _) ?_)
  refine (szGround_ok X0 Y0 (1048576) h0 A0 n0 ca0 _ (by omega) (by omega) (by omega)).mono ?_
  rintro e w1 ⟨rfl, hb⟩
  replace P0 := P0.below hb
  replace P1 := P1.below hb
  replace B := nxt B hb
  clear hb
  go_wp2_with fail
  try simp only [Act.put]
  go_upto_region 5 with fail
  go_cut [6, 7, 8] (fun t6 t7 t8 wx => ∃ b5 : Nat, t6 = .pointer (some ⟨b5, 0, none⟩) ∧ t7 = .int .i64 z1 ∧ t8 = .int .i64 z2 ∧ Below w.heap.size w wx ∧ Bx wx w.heap.size (gV X0 Y0 h0 (.slice A0 n0 ca0)) 28 ∧ Bx wx (w.heap.size + 1) #[.int .i8 a1, .int .i8 b1] 39 ∧ Bx wx b5 #[.int .i8 p0, .int .i8 q0] 40 ∧ w.heap.size < b5 ∧ (w.heap.size + 1) < b5)
  case first =>
    refine wp_region_held_drew (S := (fun w' : World => Bx w' w.heap.size (gV X0 Y0 h0 (.slice A0 n0 ca0)) 28 ∧ Bx w' (w.heap.size + 1) #[.int .i8 a1, .int .i8 b1] 39)) (by kernel_rfl) ⟨P0, P1⟩ (fun hHeld => ?_)
    replace P0 := P0.drew
    replace P1 := P1.drew
    replace B := B.drew
    obtain ⟨w2, hW⟩ : ∃ W : World, W = w1.drew := ⟨_, rfl⟩
    rw [← hW] at P0 P1 B hHeld ⊢
    clear hW
    refine wpAnyH_take (i := 0) (oi := _) (v := .agg (gV X0 Y0 h0 (.slice A0 n0 ca0))) rfl (by kernel_rfl) (by kernel_rfl) (by kernel_rfl) (fun _ _ _ h => h) (yields_box (by kernel_rfl) _ _ rfl w.heap.size rfl (gV X0 Y0 h0 (.slice A0 n0 ca0)) 28 (fun _ hS => hS.1) _ Try.underlying28 rfl (infoLGv _ _ _ _)) (by assumption) ?_
    try simp only [List.getElem_toArray, List.getElem_cons_zero, List.getElem_cons_succ, Act.put, List.setIfInBounds_toArray, List.set_cons_zero, List.set_cons_succ]
    refine wpAnyH_take (i := 2) (oi := _) (v := .agg #[.int .i8 a1, .int .i8 b1]) rfl (by kernel_rfl) (by kernel_rfl) (by kernel_rfl) (fun _ _ _ h => h) (yields_box (by kernel_rfl) _ _ rfl (w.heap.size + 1) rfl #[.int .i8 a1, .int .i8 b1] 39 (fun _ hS => hS.2) _ Try.underlying39 rfl (by kernel_rfl)) (by assumption) ?_
    try simp only [List.getElem_toArray, List.getElem_cons_zero, List.getElem_cons_succ, Act.put, List.setIfInBounds_toArray, List.set_cons_zero, List.set_cons_succ]
    refine wpAnyH_ready (rs := [1, 9]) (by kernel_rfl) (by simp) ?_
    refine AllReadyH.cons (o := _) rfl (fun K hK => ?_) (AllReadyH.cons (o := _) rfl (fun K hK => ?_) AllReadyH.nil)
    rotate_left
    · skip
      go_simp
      have nb_P0 : w.heap.size < w2.heap.size := P0.lt
      have nb_P1 : (w.heap.size + 1) < w2.heap.size := P1.lt
      have nbw : w.heap.size ≤ w2.heap.size := B.size
      have HB := Bx.new w2 #[.int .i8 0, .int .i8 0] 40
      replace P0 := P0.alloc (.cells #[.int .i8 0, .int .i8 0] 40)
      replace P1 := P1.alloc (.cells #[.int .i8 0, .int .i8 0] 40)
      replace B := al B (.cells #[.int .i8 0, .int .i8 0] 40)
      obtain ⟨w3, hW⟩ : ∃ W : World, W = w2.alloc (.cells #[.int .i8 0, .int .i8 0] 40) := ⟨_, rfl⟩
      rw [← hW] at P0 P1 B HB ⊢
      clear hW
      refine hK.out _ _ ⟨P0, P1⟩ (fun hHeld => ?_)
      clear hK K
      try simp only [List.getElem_toArray, List.getElem_cons_zero, List.getElem_cons_succ, Act.put, List.setIfInBounds_toArray, List.set_cons_zero, List.set_cons_succ]
      refine wpAnyH_ready (rs := [1]) (by kernel_rfl) (by simp) ?_
      refine AllReadyH.cons (o := _) rfl (fun K hK => ?_) AllReadyH.nil
      go_simp
      refine (toGround_any X0 Y0 h0 A0 n0 ca0 w.heap.size c0 _ (by omega) B.size (HR0.out.below B)).mono ?_
      rintro e w4 ⟨g50, rfl, hg, hb, R50⟩
      replace P0 := P0.below hb
      replace P1 := P1.below hb
      replace HB := HB.below hb
      replace B := nxt B hb
      clear hb
      clear hg
      refine hK.out _ _ ⟨P0, P1⟩ (fun hHeld => ?_)
      clear hK K
      try simp only [List.getElem_toArray, List.getElem_cons_zero, List.getElem_cons_succ, Act.put, List.setIfInBounds_toArray, List.set_cons_zero, List.set_cons_succ]
      refine wpAnyH_ready (rs := [3]) (by kernel_rfl) (by simp) ?_
      refine AllReadyH.cons (o := _) rfl (fun K hK => ?_) AllReadyH.nil
      go_simp
      refine (toCell_any a1 b1 _).mono ?_
      rintro e w5 ⟨rfl, hb⟩
      replace P0 := P0.below hb
      replace P1 := P1.below hb
      replace HB := HB.below hb
      replace R50 := R50.below hb
      replace B := nxt B hb
      clear hb
      refine hK.out _ _ ⟨P0, P1⟩ (fun hHeld => ?_)
      clear hK K
      try simp only [List.getElem_toArray, List.getElem_cons_zero, List.getElem_cons_succ, Act.put, List.setIfInBounds_toArray, List.set_cons_zero, List.set_cons_succ]
      refine wpAnyH_ready (rs := [4]) (by kernel_rfl) (by simp) ?_
      refine AllReadyH.cons (o := _) rfl (fun K hK => ?_) AllReadyH.nil
      go_simp
      refine (HS.out _ g50 B.size R50).mono ?_
      rintro e w6 ⟨hb, rfl⟩
      replace P0 := P0.below hb
      replace P1 := P1.below hb
      replace HB := HB.below hb
      replace R50 := R50.below hb
      replace B := nxt B hb
      clear hb
      refine hK.out _ _ ⟨P0, P1⟩ (fun hHeld => ?_)
      clear hK K
      try simp only [List.getElem_toArray, List.getElem_cons_zero, List.getElem_cons_succ, Act.put, List.setIfInBounds_toArray, List.set_cons_zero, List.set_cons_succ]
      refine wpAnyH_take (i := 5) (oi := _) (v := ?_) rfl (by kernel_rfl) (by kernel_rfl) (by kernel_rfl) (fun _ _ _ h => h) (Or.inl ⟨by kernel_rfl, ?_⟩) (by assumption) ?_
      rotate_left
      · intro w hSw; (try dsimp only at hSw); go_simp; first | done | with_reducible rfl
      try simp only [List.getElem_toArray, List.getElem_cons_zero, List.getElem_cons_succ, Act.put, List.setIfInBounds_toArray, List.set_cons_zero, List.set_cons_succ]
      refine wpAnyH_take (i := 6) (oi := _) (v := ?_) rfl (by kernel_rfl) (by kernel_rfl) (by kernel_rfl) (fun _ _ _ h => h) (Or.inl ⟨by kernel_rfl, ?_⟩) (by assumption) ?_
      rotate_left
      · intro w hSw; (try dsimp only at hSw); go_simp; first | done | with_reducible rfl
      try simp only [List.getElem_toArray, List.getElem_cons_zero, List.getElem_cons_succ, Act.put, List.setIfInBounds_toArray, List.set_cons_zero, List.set_cons_succ]
      refine wpAnyH_take (i := 7) (oi := _) (v := ?_) rfl (by kernel_rfl) (by kernel_rfl) (by kernel_rfl) (fun _ _ _ h => h) (Or.inl ⟨by kernel_rfl, ?_⟩) (by assumption) ?_
      rotate_left
      · intro w hSw; (try dsimp only at hSw); go_simp; first | done | with_reducible rfl
      try simp only [List.getElem_toArray, List.getElem_cons_zero, List.getElem_cons_succ, Act.put, List.setIfInBounds_toArray, List.set_cons_zero, List.set_cons_succ]
      refine wpAnyH_take (i := 8) (oi := _) (v := ?_) rfl (by kernel_rfl) (by kernel_rfl) (by kernel_rfl) (fun _ _ _ h => h) (Or.inl ⟨by kernel_rfl, ?_⟩) (by assumption) ?_
      rotate_left
      · intro w hSw; (try dsimp only at hSw); go_simp; first | done | with_reducible rfl
      try simp only [List.getElem_toArray, List.getElem_cons_zero, List.getElem_cons_succ, Act.put, List.setIfInBounds_toArray, List.set_cons_zero, List.set_cons_succ]
      have sB0 := HB.cell 0
      have sB1 := HB.cell 1
      have fB0 := HB.frozen 0
      have fB1 := HB.frozen 1
      simp only [List.getElem?_toArray, List.getElem?_cons_zero, List.getElem?_cons_succ] at sB0 sB1
      have GB := (HB.set 0 (.int .i8 p0)).set 1 (.int .i8 q0)
      have B' := (B.setCell (p := ⟨w2.heap.size, 0, none⟩) nbw (.int .i8 p0)).setCell (p := ⟨w2.heap.size, 1, none⟩) nbw (.int .i8 q0)
      have GP0 := (P0.other (g := w2.heap.size) (o := 0) (.int .i8 p0) (by omega)).other (g := w2.heap.size) (o := 1) (.int .i8 q0) (by omega)
      have GP1 := (P1.other (g := w2.heap.size) (o := 0) (.int .i8 p0) (by omega)).other (g := w2.heap.size) (o := 1) (.int .i8 q0) (by omega)
      refine wpAnyH_ready (rs := [10]) (by kernel_rfl) (by simp) ?_
      refine AllReadyH.cons (o := _) rfl (fun K hK => ?_) AllReadyH.nil
      go_simp
      refine hK.out _ _ ⟨GP0, GP1⟩ (fun hHeld => ?_)
      clear hK K
      try simp only [List.getElem_toArray, List.getElem_cons_zero, List.getElem_cons_succ, Act.put, List.setIfInBounds_toArray, List.set_cons_zero, List.set_cons_succ]
      refine wpAnyH_take (i := 11) (oi := _) (v := ?_) rfl (by kernel_rfl) (by kernel_rfl) (by kernel_rfl) (fun _ _ _ h => h) (Or.inl ⟨by kernel_rfl, ?_⟩) (by assumption) ?_
      rotate_left
      · intro w hSw; (try dsimp only at hSw); go_simp; first | done | with_reducible rfl
      try simp only [List.getElem_toArray, List.getElem_cons_zero, List.getElem_cons_succ, Act.put, List.setIfInBounds_toArray, List.set_cons_zero, List.set_cons_succ]
      refine wpAnyH_take (i := 12) (oi := _) (v := ?_) rfl (by kernel_rfl) (by kernel_rfl) (by kernel_rfl) (fun _ _ _ h => h) (Or.inl ⟨by kernel_rfl, ?_⟩) (by assumption) ?_
      rotate_left
      · intro w hSw; (try dsimp only at hSw); go_simp; first | done | with_reducible rfl
      try simp only [List.getElem_toArray, List.getElem_cons_zero, List.getElem_cons_succ, Act.put, List.setIfInBounds_toArray, List.set_cons_zero, List.set_cons_succ]
      refine wpAnyH_done (by kernel_rfl) ?_ _
      go_wp2_with fail
      go_meet
      exact ⟨_, rfl, rfl, rfl, B', GP0, GP1, GB, nb_P0, nb_P1⟩
    · skip
      go_simp
      refine (toGround_any X0 Y0 h0 A0 n0 ca0 w.heap.size c0 _ (by omega) B.size (HR0.out.below B)).mono ?_
      rintro e w7 ⟨g50, rfl, hg, hb, R50⟩
      replace P0 := P0.below hb
      replace P1 := P1.below hb
      replace B := nxt B hb
      clear hb
      clear hg
      refine hK.out _ _ ⟨P0, P1⟩ (fun hHeld => ?_)
      clear hK K
      try simp only [List.getElem_toArray, List.getElem_cons_zero, List.getElem_cons_succ, Act.put, List.setIfInBounds_toArray, List.set_cons_zero, List.set_cons_succ]
      refine wpAnyH_ready (rs := [3, 9]) (by kernel_rfl) (by simp) ?_
      refine AllReadyH.cons (o := _) rfl (fun K hK => ?_) (AllReadyH.cons (o := _) rfl (fun K hK => ?_) AllReadyH.nil)
      rotate_left
      · skip
        go_simp
        have nb_P0 : w.heap.size < w7.heap.size := P0.lt
        have nb_P1 : (w.heap.size + 1) < w7.heap.size := P1.lt
        have nbw : w.heap.size ≤ w7.heap.size := B.size
        have HB := Bx.new w7 #[.int .i8 0, .int .i8 0] 40
        replace P0 := P0.alloc (.cells #[.int .i8 0, .int .i8 0] 40)
        replace P1 := P1.alloc (.cells #[.int .i8 0, .int .i8 0] 40)
        replace R50 := R50.alloc (.cells #[.int .i8 0, .int .i8 0] 40)
        replace B := al B (.cells #[.int .i8 0, .int .i8 0] 40)
        obtain ⟨w8, hW⟩ : ∃ W : World, W = w7.alloc (.cells #[.int .i8 0, .int .i8 0] 40) := ⟨_, rfl⟩
        rw [← hW] at P0 P1 R50 B HB ⊢
        clear hW
        refine hK.out _ _ ⟨P0, P1⟩ (fun hHeld => ?_)
        clear hK K
        try simp only [List.getElem_toArray, List.getElem_cons_zero, List.getElem_cons_succ, Act.put, List.setIfInBounds_toArray, List.set_cons_zero, List.set_cons_succ]
        refine wpAnyH_ready (rs := [3]) (by kernel_rfl) (by simp) ?_
        refine AllReadyH.cons (o := _) rfl (fun K hK => ?_) AllReadyH.nil
        go_simp
        refine (toCell_any a1 b1 _).mono ?_
        rintro e w9 ⟨rfl, hb⟩
        replace P0 := P0.below hb
        replace P1 := P1.below hb
        replace R50 := R50.below hb
        replace HB := HB.below hb
        replace B := nxt B hb
        clear hb
        refine hK.out _ _ ⟨P0, P1⟩ (fun hHeld => ?_)
        clear hK K
        try simp only [List.getElem_toArray, List.getElem_cons_zero, List.getElem_cons_succ, Act.put, List.setIfInBounds_toArray, List.set_cons_zero, List.set_cons_succ]
        refine wpAnyH_ready (rs := [4]) (by kernel_rfl) (by simp) ?_
        refine AllReadyH.cons (o := _) rfl (fun K hK => ?_) AllReadyH.nil
        go_simp
        refine (HS.out _ g50 B.size R50).mono ?_
        rintro e w10 ⟨hb, rfl⟩
        replace P0 := P0.below hb
        replace P1 := P1.below hb
        replace R50 := R50.below hb
        replace HB := HB.below hb
        replace B := nxt B hb
        clear hb
        refine hK.out _ _ ⟨P0, P1⟩ (fun hHeld => ?_)
        clear hK K
        try simp only [List.getElem_toArray, List.getElem_cons_zero, List.getElem_cons_succ, Act.put, List.setIfInBounds_toArray, List.set_cons_zero, List.set_cons_succ]
        refine wpAnyH_take (i := 5) (oi := _) (v := ?_) rfl (by kernel_rfl) (by kernel_rfl) (by kernel_rfl) (fun _ _ _ h => h) (Or.inl ⟨by kernel_rfl, ?_⟩) (by assumption) ?_
        rotate_left
        · intro w hSw; (try dsimp only at hSw); go_simp; first | done | with_reducible rfl
        try simp only [List.getElem_toArray, List.getElem_cons_zero, List.getElem_cons_succ, Act.put, List.setIfInBounds_toArray, List.set_cons_zero, List.set_cons_succ]
        refine wpAnyH_take (i := 6) (oi := _) (v := ?_) rfl (by kernel_rfl) (by kernel_rfl) (by kernel_rfl) (fun _ _ _ h => h) (Or.inl ⟨by kernel_rfl, ?_⟩) (by assumption) ?_
        rotate_left
        · intro w hSw; (try dsimp only at hSw); go_simp; first | done | with_reducible rfl
        try simp only [List.getElem_toArray, List.getElem_cons_zero, List.getElem_cons_succ, Act.put, List.setIfInBounds_toArray, List.set_cons_zero, List.set_cons_succ]
        refine wpAnyH_take (i := 7) (oi := _) (v := ?_) rfl (by kernel_rfl) (by kernel_rfl) (by kernel_rfl) (fun _ _ _ h => h) (Or.inl ⟨by kernel_rfl, ?_⟩) (by assumption) ?_
        rotate_left
        · intro w hSw; (try dsimp only at hSw); go_simp; first | done | with_reducible rfl
        try simp only [List.getElem_toArray, List.getElem_cons_zero, List.getElem_cons_succ, Act.put, List.setIfInBounds_toArray, List.set_cons_zero, List.set_cons_succ]
        refine wpAnyH_take (i := 8) (oi := _) (v := ?_) rfl (by kernel_rfl) (by kernel_rfl) (by kernel_rfl) (fun _ _ _ h => h) (Or.inl ⟨by kernel_rfl, ?_⟩) (by assumption) ?_
        rotate_left
        · intro w hSw; (try dsimp only at hSw); go_simp; first | done | with_reducible rfl
        try simp only [List.getElem_toArray, List.getElem_cons_zero, List.getElem_cons_succ, Act.put, List.setIfInBounds_toArray, List.set_cons_zero, List.set_cons_succ]
        have sB0 := HB.cell 0
        have sB1 := HB.cell 1
        have fB0 := HB.frozen 0
        have fB1 := HB.frozen 1
        simp only [List.getElem?_toArray, List.getElem?_cons_zero, List.getElem?_cons_succ] at sB0 sB1
        have GB := (HB.set 0 (.int .i8 p0)).set 1 (.int .i8 q0)
        have B' := (B.setCell (p := ⟨w7.heap.size, 0, none⟩) nbw (.int .i8 p0)).setCell (p := ⟨w7.heap.size, 1, none⟩) nbw (.int .i8 q0)
        have GP0 := (P0.other (g := w7.heap.size) (o := 0) (.int .i8 p0) (by omega)).other (g := w7.heap.size) (o := 1) (.int .i8 q0) (by omega)
        have GP1 := (P1.other (g := w7.heap.size) (o := 0) (.int .i8 p0) (by omega)).other (g := w7.heap.size) (o := 1) (.int .i8 q0) (by omega)
        refine wpAnyH_ready (rs := [10]) (by kernel_rfl) (by simp) ?_
        refine AllReadyH.cons (o := _) rfl (fun K hK => ?_) AllReadyH.nil
        go_simp
        refine hK.out _ _ ⟨GP0, GP1⟩ (fun hHeld => ?_)
        clear hK K
        try simp only [List.getElem_toArray, List.getElem_cons_zero, List.getElem_cons_succ, Act.put, List.setIfInBounds_toArray, List.set_cons_zero, List.set_cons_succ]
        refine wpAnyH_take (i := 11) (oi := _) (v := ?_) rfl (by kernel_rfl) (by kernel_rfl) (by kernel_rfl) (fun _ _ _ h => h) (Or.inl ⟨by kernel_rfl, ?_⟩) (by assumption) ?_
        rotate_left
        · intro w hSw; (try dsimp only at hSw); go_simp; first | done | with_reducible rfl
        try simp only [List.getElem_toArray, List.getElem_cons_zero, List.getElem_cons_succ, Act.put, List.setIfInBounds_toArray, List.set_cons_zero, List.set_cons_succ]
        refine wpAnyH_take (i := 12) (oi := _) (v := ?_) rfl (by kernel_rfl) (by kernel_rfl) (by kernel_rfl) (fun _ _ _ h => h) (Or.inl ⟨by kernel_rfl, ?_⟩) (by assumption) ?_
        rotate_left
        · intro w hSw; (try dsimp only at hSw); go_simp; first | done | with_reducible rfl
        try simp only [List.getElem_toArray, List.getElem_cons_zero, List.getElem_cons_succ, Act.put, List.setIfInBounds_toArray, List.set_cons_zero, List.set_cons_succ]
        refine wpAnyH_done (by kernel_rfl) ?_ _
        go_wp2_with fail
        go_meet
        exact ⟨_, rfl, rfl, rfl, B', GP0, GP1, GB, nb_P0, nb_P1⟩
      · skip
        go_simp
        refine (toCell_any a1 b1 _).mono ?_
        rintro e w11 ⟨rfl, hb⟩
        replace P0 := P0.below hb
        replace P1 := P1.below hb
        replace R50 := R50.below hb
        replace B := nxt B hb
        clear hb
        refine hK.out _ _ ⟨P0, P1⟩ (fun hHeld => ?_)
        clear hK K
        try simp only [List.getElem_toArray, List.getElem_cons_zero, List.getElem_cons_succ, Act.put, List.setIfInBounds_toArray, List.set_cons_zero, List.set_cons_succ]
        refine wpAnyH_ready (rs := [4, 9]) (by kernel_rfl) (by simp) ?_
        refine AllReadyH.cons (o := _) rfl (fun K hK => ?_) (AllReadyH.cons (o := _) rfl (fun K hK => ?_) AllReadyH.nil)
        rotate_left
        · skip
          go_simp
          have nb_P0 : w.heap.size < w11.heap.size := P0.lt
          have nb_P1 : (w.heap.size + 1) < w11.heap.size := P1.lt
          have nbw : w.heap.size ≤ w11.heap.size := B.size
          have HB := Bx.new w11 #[.int .i8 0, .int .i8 0] 40
          replace P0 := P0.alloc (.cells #[.int .i8 0, .int .i8 0] 40)
          replace P1 := P1.alloc (.cells #[.int .i8 0, .int .i8 0] 40)
          replace R50 := R50.alloc (.cells #[.int .i8 0, .int .i8 0] 40)
          replace B := al B (.cells #[.int .i8 0, .int .i8 0] 40)
          obtain ⟨w12, hW⟩ : ∃ W : World, W = w11.alloc (.cells #[.int .i8 0, .int .i8 0] 40) := ⟨_, rfl⟩
          rw [← hW] at P0 P1 R50 B HB ⊢
          clear hW
          refine hK.out _ _ ⟨P0, P1⟩ (fun hHeld => ?_)
          clear hK K
          try simp only [List.getElem_toArray, List.getElem_cons_zero, List.getElem_cons_succ, Act.put, List.setIfInBounds_toArray, List.set_cons_zero, List.set_cons_succ]
          refine wpAnyH_ready (rs := [4]) (by kernel_rfl) (by simp) ?_
          refine AllReadyH.cons (o := _) rfl (fun K hK => ?_) AllReadyH.nil
          go_simp
          refine (HS.out _ g50 B.size R50).mono ?_
          rintro e w13 ⟨hb, rfl⟩
          replace P0 := P0.below hb
          replace P1 := P1.below hb
          replace R50 := R50.below hb
          replace HB := HB.below hb
          replace B := nxt B hb
          clear hb
          refine hK.out _ _ ⟨P0, P1⟩ (fun hHeld => ?_)
          clear hK K
          try simp only [List.getElem_toArray, List.getElem_cons_zero, List.getElem_cons_succ, Act.put, List.setIfInBounds_toArray, List.set_cons_zero, List.set_cons_succ]
          refine wpAnyH_take (i := 5) (oi := _) (v := ?_) rfl (by kernel_rfl) (by kernel_rfl) (by kernel_rfl) (fun _ _ _ h => h) (Or.inl ⟨by kernel_rfl, ?_⟩) (by assumption) ?_
          rotate_left
          · intro w hSw; (try dsimp only at hSw); go_simp; first | done | with_reducible rfl
          try simp only [List.getElem_toArray, List.getElem_cons_zero, List.getElem_cons_succ, Act.put, List.setIfInBounds_toArray, List.set_cons_zero, List.set_cons_succ]
          refine wpAnyH_take (i := 6) (oi := _) (v := ?_) rfl (by kernel_rfl) (by kernel_rfl) (by kernel_rfl) (fun _ _ _ h => h) (Or.inl ⟨by kernel_rfl, ?_⟩) (by assumption) ?_
          rotate_left
          · intro w hSw; (try dsimp only at hSw); go_simp; first | done | with_reducible rfl
          try simp only [List.getElem_toArray, List.getElem_cons_zero, List.getElem_cons_succ, Act.put, List.setIfInBounds_toArray, List.set_cons_zero, List.set_cons_succ]
          refine wpAnyH_take (i := 7) (oi := _) (v := ?_) rfl (by kernel_rfl) (by kernel_rfl) (by kernel_rfl) (fun _ _ _ h => h) (Or.inl ⟨by kernel_rfl, ?_⟩) (by assumption) ?_
          rotate_left
          · intro w hSw; (try dsimp only at hSw); go_simp; first | done | with_reducible rfl
          try simp only [List.getElem_toArray, List.getElem_cons_zero, List.getElem_cons_succ, Act.put, List.setIfInBounds_toArray, List.set_cons_zero, List.set_cons_succ]
          refine wpAnyH_take (i := 8) (oi := _) (v := ?_) rfl (by kernel_rfl) (by kernel_rfl) (by kernel_rfl) (fun _ _ _ h => h) (Or.inl ⟨by kernel_rfl, ?_⟩) (by assumption) ?_
          rotate_left
          · intro w hSw; (try dsimp only at hSw); go_simp; first | done | with_reducible rfl
          try simp only [List.getElem_toArray, List.getElem_cons_zero, List.getElem_cons_succ, Act.put, List.setIfInBounds_toArray, List.set_cons_zero, List.set_cons_succ]
          have sB0 := HB.cell 0
          have sB1 := HB.cell 1
          have fB0 := HB.frozen 0
          have fB1 := HB.frozen 1
          simp only [List.getElem?_toArray, List.getElem?_cons_zero, List.getElem?_cons_succ] at sB0 sB1
          have GB := (HB.set 0 (.int .i8 p0)).set 1 (.int .i8 q0)
          have B' := (B.setCell (p := ⟨w11.heap.size, 0, none⟩) nbw (.int .i8 p0)).setCell (p := ⟨w11.heap.size, 1, none⟩) nbw (.int .i8 q0)
          have GP0 := (P0.other (g := w11.heap.size) (o := 0) (.int .i8 p0) (by omega)).other (g := w11.heap.size) (o := 1) (.int .i8 q0) (by omega)
          have GP1 := (P1.other (g := w11.heap.size) (o := 0) (.int .i8 p0) (by omega)).other (g := w11.heap.size) (o := 1) (.int .i8 q0) (by omega)
          refine wpAnyH_ready (rs := [10]) (by kernel_rfl) (by simp) ?_
          refine AllReadyH.cons (o := _) rfl (fun K hK => ?_) AllReadyH.nil
          go_simp
          refine hK.out _ _ ⟨GP0, GP1⟩ (fun hHeld => ?_)
          clear hK K
          try simp only [List.getElem_toArray, List.getElem_cons_zero, List.getElem_cons_succ, Act.put, List.setIfInBounds_toArray, List.set_cons_zero, List.set_cons_succ]
          refine wpAnyH_take (i := 11) (oi := _) (v := ?_) rfl (by kernel_rfl) (by kernel_rfl) (by kernel_rfl) (fun _ _ _ h => h) (Or.inl ⟨by kernel_rfl, ?_⟩) (by assumption) ?_
          rotate_left
          · intro w hSw; (try dsimp only at hSw); go_simp; first | done | with_reducible rfl
          try simp only [List.getElem_toArray, List.getElem_cons_zero, List.getElem_cons_succ, Act.put, List.setIfInBounds_toArray, List.set_cons_zero, List.set_cons_succ]
          refine wpAnyH_take (i := 12) (oi := _) (v := ?_) rfl (by kernel_rfl) (by kernel_rfl) (by kernel_rfl) (fun _ _ _ h => h) (Or.inl ⟨by kernel_rfl, ?_⟩) (by assumption) ?_
          rotate_left
          · intro w hSw; (try dsimp only at hSw); go_simp; first | done | with_reducible rfl
          try simp only [List.getElem_toArray, List.getElem_cons_zero, List.getElem_cons_succ, Act.put, List.setIfInBounds_toArray, List.set_cons_zero, List.set_cons_succ]
          refine wpAnyH_done (by kernel_rfl) ?_ _
          go_wp2_with fail
          go_meet
          exact ⟨_, rfl, rfl, rfl, B', GP0, GP1, GB, nb_P0, nb_P1⟩
        · skip
          go_simp
          refine (HS.out _ g50 B.size R50).mono ?_
          rintro e w14 ⟨hb, rfl⟩
          replace P0 := P0.below hb
          replace P1 := P1.below hb
          replace R50 := R50.below hb
          replace B := nxt B hb
          clear hb
          refine hK.out _ _ ⟨P0, P1⟩ (fun hHeld => ?_)
          clear hK K
          try simp only [List.getElem_toArray, List.getElem_cons_zero, List.getElem_cons_succ, Act.put, List.setIfInBounds_toArray, List.set_cons_zero, List.set_cons_succ]
          refine wpAnyH_take (i := 5) (oi := _) (v := ?_) rfl (by kernel_rfl) (by kernel_rfl) (by kernel_rfl) (fun _ _ _ h => h) (Or.inl ⟨by kernel_rfl, ?_⟩) (by assumption) ?_
          rotate_left
          · intro w hSw; (try dsimp only at hSw); go_simp; first | done | with_reducible rfl
          try simp only [List.getElem_toArray, List.getElem_cons_zero, List.getElem_cons_succ, Act.put, List.setIfInBounds_toArray, List.set_cons_zero, List.set_cons_succ]
          refine wpAnyH_take (i := 6) (oi := _) (v := ?_) rfl (by kernel_rfl) (by kernel_rfl) (by kernel_rfl) (fun _ _ _ h => h) (Or.inl ⟨by kernel_rfl, ?_⟩) (by assumption) ?_
          rotate_left
          · intro w hSw; (try dsimp only at hSw); go_simp; first | done | with_reducible rfl
          try simp only [List.getElem_toArray, List.getElem_cons_zero, List.getElem_cons_succ, Act.put, List.setIfInBounds_toArray, List.set_cons_zero, List.set_cons_succ]
          refine wpAnyH_take (i := 7) (oi := _) (v := ?_) rfl (by kernel_rfl) (by kernel_rfl) (by kernel_rfl) (fun _ _ _ h => h) (Or.inl ⟨by kernel_rfl, ?_⟩) (by assumption) ?_
          rotate_left
          · intro w hSw; (try dsimp only at hSw); go_simp; first | done | with_reducible rfl
          try simp only [List.getElem_toArray, List.getElem_cons_zero, List.getElem_cons_succ, Act.put, List.setIfInBounds_toArray, List.set_cons_zero, List.set_cons_succ]
          refine wpAnyH_take (i := 8) (oi := _) (v := ?_) rfl (by kernel_rfl) (by kernel_rfl) (by kernel_rfl) (fun _ _ _ h => h) (Or.inl ⟨by kernel_rfl, ?_⟩) (by assumption) ?_
          rotate_left
          · intro w hSw; (try dsimp only at hSw); go_simp; first | done | with_reducible rfl
          try simp only [List.getElem_toArray, List.getElem_cons_zero, List.getElem_cons_succ, Act.put, List.setIfInBounds_toArray, List.set_cons_zero, List.set_cons_succ]
          refine wpAnyH_ready (rs := [9]) (by kernel_rfl) (by simp) ?_
          refine AllReadyH.cons (o := _) rfl (fun K hK => ?_) AllReadyH.nil
          go_simp
          have nb_P0 : w.heap.size < w14.heap.size := P0.lt
          have nb_P1 : (w.heap.size + 1) < w14.heap.size := P1.lt
          have nbw : w.heap.size ≤ w14.heap.size := B.size
          have HB := Bx.new w14 #[.int .i8 0, .int .i8 0] 40
          replace P0 := P0.alloc (.cells #[.int .i8 0, .int .i8 0] 40)
          replace P1 := P1.alloc (.cells #[.int .i8 0, .int .i8 0] 40)
          replace R50 := R50.alloc (.cells #[.int .i8 0, .int .i8 0] 40)
          replace B := al B (.cells #[.int .i8 0, .int .i8 0] 40)
          obtain ⟨w15, hW⟩ : ∃ W : World, W = w14.alloc (.cells #[.int .i8 0, .int .i8 0] 40) := ⟨_, rfl⟩
          rw [← hW] at P0 P1 R50 B HB ⊢
          clear hW
          refine hK.out _ _ ⟨P0, P1⟩ (fun hHeld => ?_)
          clear hK K
          try simp only [List.getElem_toArray, List.getElem_cons_zero, List.getElem_cons_succ, Act.put, List.setIfInBounds_toArray, List.set_cons_zero, List.set_cons_succ]
          have sB0 := HB.cell 0
          have sB1 := HB.cell 1
          have fB0 := HB.frozen 0
          have fB1 := HB.frozen 1
          simp only [List.getElem?_toArray, List.getElem?_cons_zero, List.getElem?_cons_succ] at sB0 sB1
          have GB := (HB.set 0 (.int .i8 p0)).set 1 (.int .i8 q0)
          have B' := (B.setCell (p := ⟨w14.heap.size, 0, none⟩) nbw (.int .i8 p0)).setCell (p := ⟨w14.heap.size, 1, none⟩) nbw (.int .i8 q0)
          have GP0 := (P0.other (g := w14.heap.size) (o := 0) (.int .i8 p0) (by omega)).other (g := w14.heap.size) (o := 1) (.int .i8 q0) (by omega)
          have GP1 := (P1.other (g := w14.heap.size) (o := 0) (.int .i8 p0) (by omega)).other (g := w14.heap.size) (o := 1) (.int .i8 q0) (by omega)
          refine wpAnyH_ready (rs := [10]) (by kernel_rfl) (by simp) ?_
          refine AllReadyH.cons (o := _) rfl (fun K hK => ?_) AllReadyH.nil
          go_simp
          refine hK.out _ _ ⟨GP0, GP1⟩ (fun hHeld => ?_)
          clear hK K
          try simp only [List.getElem_toArray, List.getElem_cons_zero, List.getElem_cons_succ, Act.put, List.setIfInBounds_toArray, List.set_cons_zero, List.set_cons_succ]
          refine wpAnyH_take (i := 11) (oi := _) (v := ?_) rfl (by kernel_rfl) (by kernel_rfl) (by kernel_rfl) (fun _ _ _ h => h) (Or.inl ⟨by kernel_rfl, ?_⟩) (by assumption) ?_
          rotate_left
          · intro w hSw; (try dsimp only at hSw); go_simp; first | done | with_reducible rfl
          try simp only [List.getElem_toArray, List.getElem_cons_zero, List.getElem_cons_succ, Act.put, List.setIfInBounds_toArray, List.set_cons_zero, List.set_cons_succ]
          refine wpAnyH_take (i := 12) (oi := _) (v := ?_) rfl (by kernel_rfl) (by kernel_rfl) (by kernel_rfl) (fun _ _ _ h => h) (Or.inl ⟨by kernel_rfl, ?_⟩) (by assumption) ?_
          rotate_left
          · intro w hSw; (try dsimp only at hSw); go_simp; first | done | with_reducible rfl
          try simp only [List.getElem_toArray, List.getElem_cons_zero, List.getElem_cons_succ, Act.put, List.setIfInBounds_toArray, List.set_cons_zero, List.set_cons_succ]
          refine wpAnyH_done (by kernel_rfl) ?_ _
          go_wp2_with fail
          go_meet
          exact ⟨_, rfl, rfl, rfl, B', GP0, GP1, GB, nb_P0, nb_P1⟩
  clear B P0 P1
  obtain ⟨b5, rfl, rfl, rfl, B, P0, P1, O5_0, lt5_P0, lt5_P1⟩ := hcut
  obtain ⟨w16, rfl⟩ : ∃ V : World, wc = V := ⟨_, rfl⟩
  go_wp2_with (refine wpList_load_box P0 rfl _ _ rfl rfl _ Try.underlying28 rfl (infoLGv _ _ _ _) ?_)
  refine (toGround_any X0 Y0 h0 A0 n0 ca0 w.heap.size c0 _ (by omega) B.size (HR0.out.below B)).mono ?_
  rintro e w17 ⟨g70, rfl, hg, hb, R70⟩
  have lt0 : w.heap.size < g70 := Nat.lt_of_lt_of_le P0.lt hg
  have lt1 : (w.heap.size + 1) < g70 := Nat.lt_of_lt_of_le P1.lt hg
  have lt2 : b5 < g70 := Nat.lt_of_lt_of_le O5_0.lt hg
  have bzg70 : w.heap.size ≤ g70 := Nat.le_trans B.size hg
  replace P0 := P0.below hb
  replace P1 := P1.below hb
  replace O5_0 := O5_0.below hb
  replace B := nxt B hb
  clear hb
  clear hg
  go_wp2_with (first
    | (refine wpList_store_new rfl _ _ _ rfl rfl rfl (infoGv _ _ _ _) (by rw [zsize]) (gV_one _ _ _ _ _ _) ?_
       have lt3 : w.heap.size < w17.heap.size := P0.lt
       have lt4 : (w.heap.size + 1) < w17.heap.size := P1.lt
       have lt5 : b5 < w17.heap.size := O5_0.lt
       have lt6 : g70 < w17.heap.size := R70.1
       have U0 := Bx.new w17 (gV X0 Y0 h0 (.slice (some ⟨g70, 0, none⟩) n0 n0)) 33
       replace P0 := P0.alloc (.cells (gV X0 Y0 h0 (.slice (some ⟨g70, 0, none⟩) n0 n0)) 33)
       replace P1 := P1.alloc (.cells (gV X0 Y0 h0 (.slice (some ⟨g70, 0, none⟩) n0 n0)) 33)
       replace O5_0 := O5_0.alloc (.cells (gV X0 Y0 h0 (.slice (some ⟨g70, 0, none⟩) n0 n0)) 33)
       replace R70 := R70.alloc (.cells (gV X0 Y0 h0 (.slice (some ⟨g70, 0, none⟩) n0 n0)) 33)
       replace B := al B (.cells (gV X0 Y0 h0 (.slice (some ⟨g70, 0, none⟩) n0 n0)) 33)
       obtain ⟨w18, hW⟩ : ∃ W : World, W = w17.alloc (.cells (gV X0 Y0 h0 (.slice (some ⟨g70, 0, none⟩) n0 n0)) 33) := ⟨_, rfl⟩
       rw [← hW] at P0 P1 O5_0 R70 U0 B ⊢
       clear hW))
  go_wp2_with fail
  try simp only [Act.put]
  go_upto_region 7 with fail
  go_cut [10, 11, 12] (fun t10 t11 t12 wx => ∃ b9 : Nat, t10 = .pointer (some ⟨b9, 0, none⟩) ∧ t11 = .int .i64 z1 ∧ t12 = .int .i64 z2 ∧ Below w.heap.size w wx ∧ Bx wx w.heap.size (gV X0 Y0 h0 (.slice A0 n0 ca0)) 28 ∧ Bx wx (w.heap.size + 1) #[.int .i8 a1, .int .i8 b1] 39 ∧ Bx wx b5 #[.int .i8 p0, .int .i8 q0] 40 ∧ Ac wx g70 n0 c0 ∧ Bx wx w17.heap.size (gV X0 Y0 h0 (.slice (some ⟨g70, 0, none⟩) n0 n0)) 33 ∧ Bx wx b9 #[.int .i8 p0, .int .i8 q0] 40 ∧ w.heap.size < b9 ∧ (w.heap.size + 1) < b9 ∧ b5 < b9 ∧ g70 < b9 ∧ w17.heap.size < b9)
  case first =>
    refine wp_region_held_drew (S := (fun w' : World => Bx w' w17.heap.size (gV X0 Y0 h0 (.slice (some ⟨g70, 0, none⟩) n0 n0)) 33 ∧ Bx w' (w.heap.size + 1) #[.int .i8 a1, .int .i8 b1] 39)) (by kernel_rfl) ⟨U0, P1⟩ (fun hHeld => ?_)
    replace P0 := P0.drew
    replace P1 := P1.drew
    replace O5_0 := O5_0.drew
    replace R70 := R70.drew
    replace U0 := U0.drew
    replace B := B.drew
    obtain ⟨w19, hW⟩ : ∃ W : World, W = w18.drew := ⟨_, rfl⟩
    rw [← hW] at P0 P1 O5_0 R70 U0 B hHeld ⊢
    clear hW
    refine wpAnyH_take (i := 0) (oi := _) (v := .agg (gV X0 Y0 h0 (.slice (some ⟨g70, 0, none⟩) n0 n0))) rfl (by kernel_rfl) (by kernel_rfl) (by kernel_rfl) (fun _ _ _ h => h) (yields_box (by kernel_rfl) _ _ rfl w17.heap.size rfl (gV X0 Y0 h0 (.slice (some ⟨g70, 0, none⟩) n0 n0)) 33 (fun _ hS => hS.1) _ Try.underlying33 rfl (infoGv _ _ _ _)) (by assumption) ?_
    try simp only [List.getElem_toArray, List.getElem_cons_zero, List.getElem_cons_succ, Act.put, List.setIfInBounds_toArray, List.set_cons_zero, List.set_cons_succ]
    refine wpAnyH_take (i := 1) (oi := _) (v := .agg #[.int .i8 a1, .int .i8 b1]) rfl (by kernel_rfl) (by kernel_rfl) (by kernel_rfl) (fun _ _ _ h => h) (yields_box (by kernel_rfl) _ _ rfl (w.heap.size + 1) rfl #[.int .i8 a1, .int .i8 b1] 39 (fun _ hS => hS.2) _ Try.underlying39 rfl (by kernel_rfl)) (by assumption) ?_
    try simp only [List.getElem_toArray, List.getElem_cons_zero, List.getElem_cons_succ, Act.put, List.setIfInBounds_toArray, List.set_cons_zero, List.set_cons_succ]
    refine wpAnyH_ready (rs := [2, 8]) (by kernel_rfl) (by simp) ?_
    refine AllReadyH.cons (o := _) rfl (fun K hK => ?_) (AllReadyH.cons (o := _) rfl (fun K hK => ?_) AllReadyH.nil)
    rotate_left
    · skip
      go_simp
      have nb_P0 : w.heap.size < w19.heap.size := P0.lt
      have nb_P1 : (w.heap.size + 1) < w19.heap.size := P1.lt
      have nb_O5_0 : b5 < w19.heap.size := O5_0.lt
      have nb_R70 : g70 < w19.heap.size := R70.1
      have nb_U0 : w17.heap.size < w19.heap.size := U0.lt
      have nbw : w.heap.size ≤ w19.heap.size := B.size
      have HB := Bx.new w19 #[.int .i8 0, .int .i8 0] 40
      replace P0 := P0.alloc (.cells #[.int .i8 0, .int .i8 0] 40)
      replace P1 := P1.alloc (.cells #[.int .i8 0, .int .i8 0] 40)
      replace O5_0 := O5_0.alloc (.cells #[.int .i8 0, .int .i8 0] 40)
      replace R70 := R70.alloc (.cells #[.int .i8 0, .int .i8 0] 40)
      replace U0 := U0.alloc (.cells #[.int .i8 0, .int .i8 0] 40)
      replace B := al B (.cells #[.int .i8 0, .int .i8 0] 40)
      obtain ⟨w20, hW⟩ : ∃ W : World, W = w19.alloc (.cells #[.int .i8 0, .int .i8 0] 40) := ⟨_, rfl⟩
      rw [← hW] at P0 P1 O5_0 R70 U0 B HB ⊢
      clear hW
      refine hK.out _ _ ⟨U0, P1⟩ (fun hHeld => ?_)
      clear hK K
      try simp only [List.getElem_toArray, List.getElem_cons_zero, List.getElem_cons_succ, Act.put, List.setIfInBounds_toArray, List.set_cons_zero, List.set_cons_succ]
      refine wpAnyH_ready (rs := [2]) (by kernel_rfl) (by simp) ?_
      refine AllReadyH.cons (o := _) rfl (fun K hK => ?_) AllReadyH.nil
      go_simp
      refine (toCell_any a1 b1 _).mono ?_
      rintro e w21 ⟨rfl, hb⟩
      replace P0 := P0.below hb
      replace P1 := P1.below hb
      replace O5_0 := O5_0.below hb
      replace R70 := R70.below hb
      replace U0 := U0.below hb
      replace HB := HB.below hb
      replace B := nxt B hb
      clear hb
      refine hK.out _ _ ⟨U0, P1⟩ (fun hHeld => ?_)
      clear hK K
      try simp only [List.getElem_toArray, List.getElem_cons_zero, List.getElem_cons_succ, Act.put, List.setIfInBounds_toArray, List.set_cons_zero, List.set_cons_succ]
      refine wpAnyH_ready (rs := [3]) (by kernel_rfl) (by simp) ?_
      refine AllReadyH.cons (o := _) rfl (fun K hK => ?_) AllReadyH.nil
      go_simp
      refine (HI.out _ g70 B.size R70).mono ?_
      rintro e w22 ⟨hb, rfl⟩
      replace P0 := P0.below hb
      replace P1 := P1.below hb
      replace O5_0 := O5_0.below hb
      replace R70 := R70.below hb
      replace U0 := U0.below hb
      replace HB := HB.below hb
      replace B := nxt B hb
      clear hb
      refine hK.out _ _ ⟨U0, P1⟩ (fun hHeld => ?_)
      clear hK K
      try simp only [List.getElem_toArray, List.getElem_cons_zero, List.getElem_cons_succ, Act.put, List.setIfInBounds_toArray, List.set_cons_zero, List.set_cons_succ]
      refine wpAnyH_take (i := 4) (oi := _) (v := ?_) rfl (by kernel_rfl) (by kernel_rfl) (by kernel_rfl) (fun _ _ _ h => h) (Or.inl ⟨by kernel_rfl, ?_⟩) (by assumption) ?_
      rotate_left
      · intro w hSw; (try dsimp only at hSw); go_simp; first | done | with_reducible rfl
      try simp only [List.getElem_toArray, List.getElem_cons_zero, List.getElem_cons_succ, Act.put, List.setIfInBounds_toArray, List.set_cons_zero, List.set_cons_succ]
      refine wpAnyH_take (i := 5) (oi := _) (v := ?_) rfl (by kernel_rfl) (by kernel_rfl) (by kernel_rfl) (fun _ _ _ h => h) (Or.inl ⟨by kernel_rfl, ?_⟩) (by assumption) ?_
      rotate_left
      · intro w hSw; (try dsimp only at hSw); go_simp; first | done | with_reducible rfl
      try simp only [List.getElem_toArray, List.getElem_cons_zero, List.getElem_cons_succ, Act.put, List.setIfInBounds_toArray, List.set_cons_zero, List.set_cons_succ]
      refine wpAnyH_take (i := 6) (oi := _) (v := ?_) rfl (by kernel_rfl) (by kernel_rfl) (by kernel_rfl) (fun _ _ _ h => h) (Or.inl ⟨by kernel_rfl, ?_⟩) (by assumption) ?_
      rotate_left
      · intro w hSw; (try dsimp only at hSw); go_simp; first | done | with_reducible rfl
      try simp only [List.getElem_toArray, List.getElem_cons_zero, List.getElem_cons_succ, Act.put, List.setIfInBounds_toArray, List.set_cons_zero, List.set_cons_succ]
      refine wpAnyH_take (i := 7) (oi := _) (v := ?_) rfl (by kernel_rfl) (by kernel_rfl) (by kernel_rfl) (fun _ _ _ h => h) (Or.inl ⟨by kernel_rfl, ?_⟩) (by assumption) ?_
      rotate_left
      · intro w hSw; (try dsimp only at hSw); go_simp; first | done | with_reducible rfl
      try simp only [List.getElem_toArray, List.getElem_cons_zero, List.getElem_cons_succ, Act.put, List.setIfInBounds_toArray, List.set_cons_zero, List.set_cons_succ]
      have sB0 := HB.cell 0
      have sB1 := HB.cell 1
      have fB0 := HB.frozen 0
      have fB1 := HB.frozen 1
      simp only [List.getElem?_toArray, List.getElem?_cons_zero, List.getElem?_cons_succ] at sB0 sB1
      have GB := (HB.set 0 (.int .i8 p0)).set 1 (.int .i8 q0)
      have B' := (B.setCell (p := ⟨w19.heap.size, 0, none⟩) nbw (.int .i8 p0)).setCell (p := ⟨w19.heap.size, 1, none⟩) nbw (.int .i8 q0)
      have GP0 := (P0.other (g := w19.heap.size) (o := 0) (.int .i8 p0) (by omega)).other (g := w19.heap.size) (o := 1) (.int .i8 q0) (by omega)
      have GP1 := (P1.other (g := w19.heap.size) (o := 0) (.int .i8 p0) (by omega)).other (g := w19.heap.size) (o := 1) (.int .i8 q0) (by omega)
      have GO5_0 := (O5_0.other (g := w19.heap.size) (o := 0) (.int .i8 p0) (by omega)).other (g := w19.heap.size) (o := 1) (.int .i8 q0) (by omega)
      have GR70 := (R70.kept (w' := w22.setCell ⟨w19.heap.size, 0, none⟩ (.int .i8 p0)) (by simp) (Below.heap_setCell _ _ _ _ (by simp; omega))).kept (w' := (w22.setCell ⟨w19.heap.size, 0, none⟩ (.int .i8 p0)).setCell ⟨w19.heap.size, 1, none⟩ (.int .i8 q0)) (by simp) (Below.heap_setCell _ _ _ _ (by simp; omega))
      have GU0 := (U0.other (g := w19.heap.size) (o := 0) (.int .i8 p0) (by omega)).other (g := w19.heap.size) (o := 1) (.int .i8 q0) (by omega)
      refine wpAnyH_ready (rs := [9]) (by kernel_rfl) (by simp) ?_
      refine AllReadyH.cons (o := _) rfl (fun K hK => ?_) AllReadyH.nil
      go_simp
      refine hK.out _ _ ⟨GU0, GP1⟩ (fun hHeld => ?_)
      clear hK K
      try simp only [List.getElem_toArray, List.getElem_cons_zero, List.getElem_cons_succ, Act.put, List.setIfInBounds_toArray, List.set_cons_zero, List.set_cons_succ]
      refine wpAnyH_take (i := 10) (oi := _) (v := ?_) rfl (by kernel_rfl) (by kernel_rfl) (by kernel_rfl) (fun _ _ _ h => h) (Or.inl ⟨by kernel_rfl, ?_⟩) (by assumption) ?_
      rotate_left
      · intro w hSw; (try dsimp only at hSw); go_simp; first | done | with_reducible rfl
      try simp only [List.getElem_toArray, List.getElem_cons_zero, List.getElem_cons_succ, Act.put, List.setIfInBounds_toArray, List.set_cons_zero, List.set_cons_succ]
      refine wpAnyH_take (i := 11) (oi := _) (v := ?_) rfl (by kernel_rfl) (by kernel_rfl) (by kernel_rfl) (fun _ _ _ h => h) (Or.inl ⟨by kernel_rfl, ?_⟩) (by assumption) ?_
      rotate_left
      · intro w hSw; (try dsimp only at hSw); go_simp; first | done | with_reducible rfl
      try simp only [List.getElem_toArray, List.getElem_cons_zero, List.getElem_cons_succ, Act.put, List.setIfInBounds_toArray, List.set_cons_zero, List.set_cons_succ]
      refine wpAnyH_done (by kernel_rfl) ?_ _
      go_wp2_with fail
      go_meet
      exact ⟨_, rfl, rfl, rfl, B', GP0, GP1, GO5_0, GR70, GU0, GB, nb_P0, nb_P1, nb_O5_0, nb_R70, nb_U0⟩
    · skip
      go_simp
      refine (toCell_any a1 b1 _).mono ?_
      rintro e w23 ⟨rfl, hb⟩
      replace P0 := P0.below hb
      replace P1 := P1.below hb
      replace O5_0 := O5_0.below hb
      replace R70 := R70.below hb
      replace U0 := U0.below hb
      replace B := nxt B hb
      clear hb
      refine hK.out _ _ ⟨U0, P1⟩ (fun hHeld => ?_)
      clear hK K
      try simp only [List.getElem_toArray, List.getElem_cons_zero, List.getElem_cons_succ, Act.put, List.setIfInBounds_toArray, List.set_cons_zero, List.set_cons_succ]
      refine wpAnyH_ready (rs := [3, 8]) (by kernel_rfl) (by simp) ?_
      refine AllReadyH.cons (o := _) rfl (fun K hK => ?_) (AllReadyH.cons (o := _) rfl (fun K hK => ?_) AllReadyH.nil)
      rotate_left
      · skip
        go_simp
        have nb_P0 : w.heap.size < w23.heap.size := P0.lt
        have nb_P1 : (w.heap.size + 1) < w23.heap.size := P1.lt
        have nb_O5_0 : b5 < w23.heap.size := O5_0.lt
        have nb_R70 : g70 < w23.heap.size := R70.1
        have nb_U0 : w17.heap.size < w23.heap.size := U0.lt
        have nbw : w.heap.size ≤ w23.heap.size := B.size
        have HB := Bx.new w23 #[.int .i8 0, .int .i8 0] 40
        replace P0 := P0.alloc (.cells #[.int .i8 0, .int .i8 0] 40)
        replace P1 := P1.alloc (.cells #[.int .i8 0, .int .i8 0] 40)
        replace O5_0 := O5_0.alloc (.cells #[.int .i8 0, .int .i8 0] 40)
        replace R70 := R70.alloc (.cells #[.int .i8 0, .int .i8 0] 40)
        replace U0 := U0.alloc (.cells #[.int .i8 0, .int .i8 0] 40)
        replace B := al B (.cells #[.int .i8 0, .int .i8 0] 40)
        obtain ⟨w24, hW⟩ : ∃ W : World, W = w23.alloc (.cells #[.int .i8 0, .int .i8 0] 40) := ⟨_, rfl⟩
        rw [← hW] at P0 P1 O5_0 R70 U0 B HB ⊢
        clear hW
        refine hK.out _ _ ⟨U0, P1⟩ (fun hHeld => ?_)
        clear hK K
        try simp only [List.getElem_toArray, List.getElem_cons_zero, List.getElem_cons_succ, Act.put, List.setIfInBounds_toArray, List.set_cons_zero, List.set_cons_succ]
        refine wpAnyH_ready (rs := [3]) (by kernel_rfl) (by simp) ?_
        refine AllReadyH.cons (o := _) rfl (fun K hK => ?_) AllReadyH.nil
        go_simp
        refine (HI.out _ g70 B.size R70).mono ?_
        rintro e w25 ⟨hb, rfl⟩
        replace P0 := P0.below hb
        replace P1 := P1.below hb
        replace O5_0 := O5_0.below hb
        replace R70 := R70.below hb
        replace U0 := U0.below hb
        replace HB := HB.below hb
        replace B := nxt B hb
        clear hb
        refine hK.out _ _ ⟨U0, P1⟩ (fun hHeld => ?_)
        clear hK K
        try simp only [List.getElem_toArray, List.getElem_cons_zero, List.getElem_cons_succ, Act.put, List.setIfInBounds_toArray, List.set_cons_zero, List.set_cons_succ]
        refine wpAnyH_take (i := 4) (oi := _) (v := ?_) rfl (by kernel_rfl) (by kernel_rfl) (by kernel_rfl) (fun _ _ _ h => h) (Or.inl ⟨by kernel_rfl, ?_⟩) (by assumption) ?_
        rotate_left
        · intro w hSw; (try dsimp only at hSw); go_simp; first | done | with_reducible rfl
        try simp only [List.getElem_toArray, List.getElem_cons_zero, List.getElem_cons_succ, Act.put, List.setIfInBounds_toArray, List.set_cons_zero, List.set_cons_succ]
        refine wpAnyH_take (i := 5) (oi := _) (v := ?_) rfl (by kernel_rfl) (by kernel_rfl) (by kernel_rfl) (fun _ _ _ h => h) (Or.inl ⟨by kernel_rfl, ?_⟩) (by assumption) ?_
        rotate_left
        · intro w hSw; (try dsimp only at hSw); go_simp; first | done | with_reducible rfl
        try simp only [List.getElem_toArray, List.getElem_cons_zero, List.getElem_cons_succ, Act.put, List.setIfInBounds_toArray, List.set_cons_zero, List.set_cons_succ]
        refine wpAnyH_take (i := 6) (oi := _) (v := ?_) rfl (by kernel_rfl) (by kernel_rfl) (by kernel_rfl) (fun _ _ _ h => h) (Or.inl ⟨by kernel_rfl, ?_⟩) (by assumption) ?_
        rotate_left
        · intro w hSw; (try dsimp only at hSw); go_simp; first | done | with_reducible rfl
        try simp only [List.getElem_toArray, List.getElem_cons_zero, List.getElem_cons_succ, Act.put, List.setIfInBounds_toArray, List.set_cons_zero, List.set_cons_succ]
        refine wpAnyH_take (i := 7) (oi := _) (v := ?_) rfl (by kernel_rfl) (by kernel_rfl) (by kernel_rfl) (fun _ _ _ h => h) (Or.inl ⟨by kernel_rfl, ?_⟩) (by assumption) ?_
        rotate_left
        · intro w hSw; (try dsimp only at hSw); go_simp; first | done | with_reducible rfl
        try simp only [List.getElem_toArray, List.getElem_cons_zero, List.getElem_cons_succ, Act.put, List.setIfInBounds_toArray, List.set_cons_zero, List.set_cons_succ]
        have sB0 := HB.cell 0
        have sB1 := HB.cell 1
        have fB0 := HB.frozen 0
        have fB1 := HB.frozen 1
        simp only [List.getElem?_toArray, List.getElem?_cons_zero, List.getElem?_cons_succ] at sB0 sB1
        have GB := (HB.set 0 (.int .i8 p0)).set 1 (.int .i8 q0)
        have B' := (B.setCell (p := ⟨w23.heap.size, 0, none⟩) nbw (.int .i8 p0)).setCell (p := ⟨w23.heap.size, 1, none⟩) nbw (.int .i8 q0)
        have GP0 := (P0.other (g := w23.heap.size) (o := 0) (.int .i8 p0) (by omega)).other (g := w23.heap.size) (o := 1) (.int .i8 q0) (by omega)
        have GP1 := (P1.other (g := w23.heap.size) (o := 0) (.int .i8 p0) (by omega)).other (g := w23.heap.size) (o := 1) (.int .i8 q0) (by omega)
        have GO5_0 := (O5_0.other (g := w23.heap.size) (o := 0) (.int .i8 p0) (by omega)).other (g := w23.heap.size) (o := 1) (.int .i8 q0) (by omega)
        have GR70 := (R70.kept (w' := w25.setCell ⟨w23.heap.size, 0, none⟩ (.int .i8 p0)) (by simp) (Below.heap_setCell _ _ _ _ (by simp; omega))).kept (w' := (w25.setCell ⟨w23.heap.size, 0, none⟩ (.int .i8 p0)).setCell ⟨w23.heap.size, 1, none⟩ (.int .i8 q0)) (by simp) (Below.heap_setCell _ _ _ _ (by simp; omega))
        have GU0 := (U0.other (g := w23.heap.size) (o := 0) (.int .i8 p0) (by omega)).other (g := w23.heap.size) (o := 1) (.int .i8 q0) (by omega)
        refine wpAnyH_ready (rs := [9]) (by kernel_rfl) (by simp) ?_
        refine AllReadyH.cons (o := _) rfl (fun K hK => ?_) AllReadyH.nil
        go_simp
        refine hK.out _ _ ⟨GU0, GP1⟩ (fun hHeld => ?_)
        clear hK K
        try simp only [List.getElem_toArray, List.getElem_cons_zero, List.getElem_cons_succ, Act.put, List.setIfInBounds_toArray, List.set_cons_zero, List.set_cons_succ]
        refine wpAnyH_take (i := 10) (oi := _) (v := ?_) rfl (by kernel_rfl) (by kernel_rfl) (by kernel_rfl) (fun _ _ _ h => h) (Or.inl ⟨by kernel_rfl, ?_⟩) (by assumption) ?_
        rotate_left
        · intro w hSw; (try dsimp only at hSw); go_simp; first | done | with_reducible rfl
        try simp only [List.getElem_toArray, List.getElem_cons_zero, List.getElem_cons_succ, Act.put, List.setIfInBounds_toArray, List.set_cons_zero, List.set_cons_succ]
        refine wpAnyH_take (i := 11) (oi := _) (v := ?_) rfl (by kernel_rfl) (by kernel_rfl) (by kernel_rfl) (fun _ _ _ h => h) (Or.inl ⟨by kernel_rfl, ?_⟩) (by assumption) ?_
        rotate_left
        · intro w hSw; (try dsimp only at hSw); go_simp; first | done | with_reducible rfl
        try simp only [List.getElem_toArray, List.getElem_cons_zero, List.getElem_cons_succ, Act.put, List.setIfInBounds_toArray, List.set_cons_zero, List.set_cons_succ]
        refine wpAnyH_done (by kernel_rfl) ?_ _
        go_wp2_with fail
        go_meet
        exact ⟨_, rfl, rfl, rfl, B', GP0, GP1, GO5_0, GR70, GU0, GB, nb_P0, nb_P1, nb_O5_0, nb_R70, nb_U0⟩
      · skip
        go_simp
        refine (HI.out _ g70 B.size R70).mono ?_
        rintro e w26 ⟨hb, rfl⟩
        replace P0 := P0.below hb
        replace P1 := P1.below hb
        replace O5_0 := O5_0.below hb
        replace R70 := R70.below hb
        replace U0 := U0.below hb
        replace B := nxt B hb
        clear hb
        refine hK.out _ _ ⟨U0, P1⟩ (fun hHeld => ?_)
        clear hK K
        try simp only [List.getElem_toArray, List.getElem_cons_zero, List.getElem_cons_succ, Act.put, List.setIfInBounds_toArray, List.set_cons_zero, List.set_cons_succ]
        refine wpAnyH_take (i := 4) (oi := _) (v := ?_) rfl (by kernel_rfl) (by kernel_rfl) (by kernel_rfl) (fun _ _ _ h => h) (Or.inl ⟨by kernel_rfl, ?_⟩) (by assumption) ?_
        rotate_left
        · intro w hSw; (try dsimp only at hSw); go_simp; first | done | with_reducible rfl
        try simp only [List.getElem_toArray, List.getElem_cons_zero, List.getElem_cons_succ, Act.put, List.setIfInBounds_toArray, List.set_cons_zero, List.set_cons_succ]
        refine wpAnyH_take (i := 5) (oi := _) (v := ?_) rfl (by kernel_rfl) (by kernel_rfl) (by kernel_rfl) (fun _ _ _ h => h) (Or.inl ⟨by kernel_rfl, ?_⟩) (by assumption) ?_
        rotate_left
        · intro w hSw; (try dsimp only at hSw); go_simp; first | done | with_reducible rfl
        try simp only [List.getElem_toArray, List.getElem_cons_zero, List.getElem_cons_succ, Act.put, List.setIfInBounds_toArray, List.set_cons_zero, List.set_cons_succ]
        refine wpAnyH_take (i := 6) (oi := _) (v := ?_) rfl (by kernel_rfl) (by kernel_rfl) (by kernel_rfl) (fun _ _ _ h => h) (Or.inl ⟨by kernel_rfl, ?_⟩) (by assumption) ?_
        rotate_left
        · intro w hSw; (try dsimp only at hSw); go_simp; first | done | with_reducible rfl
        try simp only [List.getElem_toArray, List.getElem_cons_zero, List.getElem_cons_succ, Act.put, List.setIfInBounds_toArray, List.set_cons_zero, List.set_cons_succ]
        refine wpAnyH_take (i := 7) (oi := _) (v := ?_) rfl (by kernel_rfl) (by kernel_rfl) (by kernel_rfl) (fun _ _ _ h => h) (Or.inl ⟨by kernel_rfl, ?_⟩) (by assumption) ?_
        rotate_left
        · intro w hSw; (try dsimp only at hSw); go_simp; first | done | with_reducible rfl
        try simp only [List.getElem_toArray, List.getElem_cons_zero, List.getElem_cons_succ, Act.put, List.setIfInBounds_toArray, List.set_cons_zero, List.set_cons_succ]
        refine wpAnyH_ready (rs := [8]) (by kernel_rfl) (by simp) ?_
        refine AllReadyH.cons (o := _) rfl (fun K hK => ?_) AllReadyH.nil
        go_simp
        have nb_P0 : w.heap.size < w26.heap.size := P0.lt
        have nb_P1 : (w.heap.size + 1) < w26.heap.size := P1.lt
        have nb_O5_0 : b5 < w26.heap.size := O5_0.lt
        have nb_R70 : g70 < w26.heap.size := R70.1
        have nb_U0 : w17.heap.size < w26.heap.size := U0.lt
        have nbw : w.heap.size ≤ w26.heap.size := B.size
        have HB := Bx.new w26 #[.int .i8 0, .int .i8 0] 40
        replace P0 := P0.alloc (.cells #[.int .i8 0, .int .i8 0] 40)
        replace P1 := P1.alloc (.cells #[.int .i8 0, .int .i8 0] 40)
        replace O5_0 := O5_0.alloc (.cells #[.int .i8 0, .int .i8 0] 40)
        replace R70 := R70.alloc (.cells #[.int .i8 0, .int .i8 0] 40)
        replace U0 := U0.alloc (.cells #[.int .i8 0, .int .i8 0] 40)
        replace B := al B (.cells #[.int .i8 0, .int .i8 0] 40)
        obtain ⟨w27, hW⟩ : ∃ W : World, W = w26.alloc (.cells #[.int .i8 0, .int .i8 0] 40) := ⟨_, rfl⟩
        rw [← hW] at P0 P1 O5_0 R70 U0 B HB ⊢
        clear hW
        refine hK.out _ _ ⟨U0, P1⟩ (fun hHeld => ?_)
        clear hK K
        try simp only [List.getElem_toArray, List.getElem_cons_zero, List.getElem_cons_succ, Act.put, List.setIfInBounds_toArray, List.set_cons_zero, List.set_cons_succ]
        have sB0 := HB.cell 0
        have sB1 := HB.cell 1
        have fB0 := HB.frozen 0
        have fB1 := HB.frozen 1
        simp only [List.getElem?_toArray, List.getElem?_cons_zero, List.getElem?_cons_succ] at sB0 sB1
        have GB := (HB.set 0 (.int .i8 p0)).set 1 (.int .i8 q0)
        have B' := (B.setCell (p := ⟨w26.heap.size, 0, none⟩) nbw (.int .i8 p0)).setCell (p := ⟨w26.heap.size, 1, none⟩) nbw (.int .i8 q0)
        have GP0 := (P0.other (g := w26.heap.size) (o := 0) (.int .i8 p0) (by omega)).other (g := w26.heap.size) (o := 1) (.int .i8 q0) (by omega)
        have GP1 := (P1.other (g := w26.heap.size) (o := 0) (.int .i8 p0) (by omega)).other (g := w26.heap.size) (o := 1) (.int .i8 q0) (by omega)
        have GO5_0 := (O5_0.other (g := w26.heap.size) (o := 0) (.int .i8 p0) (by omega)).other (g := w26.heap.size) (o := 1) (.int .i8 q0) (by omega)
        have GR70 := (R70.kept (w' := w27.setCell ⟨w26.heap.size, 0, none⟩ (.int .i8 p0)) (by simp) (Below.heap_setCell _ _ _ _ (by simp; omega))).kept (w' := (w27.setCell ⟨w26.heap.size, 0, none⟩ (.int .i8 p0)).setCell ⟨w26.heap.size, 1, none⟩ (.int .i8 q0)) (by simp) (Below.heap_setCell _ _ _ _ (by simp; omega))
        have GU0 := (U0.other (g := w26.heap.size) (o := 0) (.int .i8 p0) (by omega)).other (g := w26.heap.size) (o := 1) (.int .i8 q0) (by omega)
        refine wpAnyH_ready (rs := [9]) (by kernel_rfl) (by simp) ?_
        refine AllReadyH.cons (o := _) rfl (fun K hK => ?_) AllReadyH.nil
        go_simp
        refine hK.out _ _ ⟨GU0, GP1⟩ (fun hHeld => ?_)
        clear hK K
        try simp only [List.getElem_toArray, List.getElem_cons_zero, List.getElem_cons_succ, Act.put, List.setIfInBounds_toArray, List.set_cons_zero, List.set_cons_succ]
        refine wpAnyH_take (i := 10) (oi := _) (v := ?_) rfl (by kernel_rfl) (by kernel_rfl) (by kernel_rfl) (fun _ _ _ h => h) (Or.inl ⟨by kernel_rfl, ?_⟩) (by assumption) ?_
        rotate_left
        · intro w hSw; (try dsimp only at hSw); go_simp; first | done | with_reducible rfl
        try simp only [List.getElem_toArray, List.getElem_cons_zero, List.getElem_cons_succ, Act.put, List.setIfInBounds_toArray, List.set_cons_zero, List.set_cons_succ]
        refine wpAnyH_take (i := 11) (oi := _) (v := ?_) rfl (by kernel_rfl) (by kernel_rfl) (by kernel_rfl) (fun _ _ _ h => h) (Or.inl ⟨by kernel_rfl, ?_⟩) (by assumption) ?_
        rotate_left
        · intro w hSw; (try dsimp only at hSw); go_simp; first | done | with_reducible rfl
        try simp only [List.getElem_toArray, List.getElem_cons_zero, List.getElem_cons_succ, Act.put, List.setIfInBounds_toArray, List.set_cons_zero, List.set_cons_succ]
        refine wpAnyH_done (by kernel_rfl) ?_ _
        go_wp2_with fail
        go_meet
        exact ⟨_, rfl, rfl, rfl, B', GP0, GP1, GO5_0, GR70, GU0, GB, nb_P0, nb_P1, nb_O5_0, nb_R70, nb_U0⟩
  clear B P0 P1 O5_0 R70 U0
  obtain ⟨b9, rfl, rfl, rfl, B, P0, P1, O5_0, R70, U0, O9_0, lt9_P0, lt9_P1, lt9_O5_0, lt9_R70, lt9_U0⟩ := hcut
  obtain ⟨w28, rfl⟩ : ∃ V : World, wc = V := ⟨_, rfl⟩
  go_wp2_with (first
    | (refine wpList_load_box O9_0 rfl _ _ rfl rfl _ Try.underlying40 rfl (by kernel_rfl) ?_)
    | (refine wpList_load_box O5_0 rfl _ _ rfl rfl _ Try.underlying40 rfl (by kernel_rfl) ?_))
  refine (eqCell_yes p0 q0 _).mono ?_
  rintro e w29 ⟨rfl, hb⟩
  replace P0 := P0.below hb
  replace P1 := P1.below hb
  replace O5_0 := O5_0.below hb
  replace R70 := R70.below hb
  replace U0 := U0.below hb
  replace O9_0 := O9_0.below hb
  replace B := nxt B hb
  clear hb
  go_wp2_with fail
  refine wp_region_held_drew (S := (fun w' : World => Bx w' w17.heap.size (gV X0 Y0 h0 (.slice (some ⟨g70, 0, none⟩) n0 n0)) 33 ∧ Bx w' w.heap.size (gV X0 Y0 h0 (.slice A0 n0 ca0)) 28)) (by kernel_rfl) ⟨U0, P0⟩ (fun hHeld => ?_)
  replace P0 := P0.drew
  replace P1 := P1.drew
  replace O5_0 := O5_0.drew
  replace R70 := R70.drew
  replace U0 := U0.drew
  replace O9_0 := O9_0.drew
  replace B := B.drew
  obtain ⟨w30, hW⟩ : ∃ W : World, W = w29.drew := ⟨_, rfl⟩
  rw [← hW] at P0 P1 O5_0 R70 U0 O9_0 B hHeld ⊢
  clear hW
  refine wpAnyH_take (i := 0) (oi := _) (v := .agg (gV X0 Y0 h0 (.slice (some ⟨g70, 0, none⟩) n0 n0))) rfl (by kernel_rfl) (by kernel_rfl) (by kernel_rfl) (fun _ _ _ h => h) (yields_box (by kernel_rfl) _ _ rfl w17.heap.size rfl (gV X0 Y0 h0 (.slice (some ⟨g70, 0, none⟩) n0 n0)) 33 (fun _ hS => hS.1) _ Try.underlying33 rfl (infoGv _ _ _ _)) (by assumption) ?_
  try simp only [List.getElem_toArray, List.getElem_cons_zero, List.getElem_cons_succ, Act.put, List.setIfInBounds_toArray, List.set_cons_zero, List.set_cons_succ]
  refine wpAnyH_take (i := 1) (oi := _) (v := .agg (gV X0 Y0 h0 (.slice A0 n0 ca0))) rfl (by kernel_rfl) (by kernel_rfl) (by kernel_rfl) (fun _ _ _ h => h) (yields_box (by kernel_rfl) _ _ rfl w.heap.size rfl (gV X0 Y0 h0 (.slice A0 n0 ca0)) 28 (fun _ hS => hS.2) _ Try.underlying28 rfl (infoLGv _ _ _ _)) (by assumption) ?_
  try simp only [List.getElem_toArray, List.getElem_cons_zero, List.getElem_cons_succ, Act.put, List.setIfInBounds_toArray, List.set_cons_zero, List.set_cons_succ]
  refine wpAnyH_ready (rs := [2]) (by kernel_rfl) (by simp) ?_
  refine AllReadyH.cons (o := _) rfl (fun K hK => ?_) AllReadyH.nil
  go_simp
  refine (toGround_any X0 Y0 h0 A0 n0 ca0 w.heap.size c0 _ (by omega) B.size (HR0.out.below B)).mono ?_
  rintro e w31 ⟨gc0, rfl, hg, hb, Rc0⟩
  replace P0 := P0.below hb
  replace P1 := P1.below hb
  replace O5_0 := O5_0.below hb
  replace R70 := R70.below hb
  replace U0 := U0.below hb
  replace O9_0 := O9_0.below hb
  replace B := nxt B hb
  clear hb
  clear hg
  refine hK.out _ _ ⟨U0, P0⟩ (fun hHeld => ?_)
  clear hK K
  try simp only [List.getElem_toArray, List.getElem_cons_zero, List.getElem_cons_succ, Act.put, List.setIfInBounds_toArray, List.set_cons_zero, List.set_cons_succ]
  refine wpAnyH_ready (rs := [3]) (by kernel_rfl) (by simp) ?_
  refine AllReadyH.cons (o := _) rfl (fun K hK => ?_) AllReadyH.nil
  go_simp
  refine (eqGround_yes X0 Y0 h0 (some ⟨g70, 0, none⟩) (some ⟨gc0, 0, none⟩) n0 n0 n0 n0 _ c0 c0 _ (by omega) (by omega) (Nat.le_refl _) R70.rd Rc0.rd ⟨rfl, fun _ _ => rfl⟩).mono ?_
  rintro e w32 ⟨rfl, hb⟩
  replace P0 := P0.below hb
  replace P1 := P1.below hb
  replace O5_0 := O5_0.below hb
  replace R70 := R70.below hb
  replace U0 := U0.below hb
  replace O9_0 := O9_0.below hb
  replace Rc0 := Rc0.below hb
  replace B := nxt B hb
  clear hb
  refine hK.out _ _ ⟨U0, P0⟩ (fun hHeld => ?_)
  clear hK K
  try simp only [List.getElem_toArray, List.getElem_cons_zero, List.getElem_cons_succ, Act.put, List.setIfInBounds_toArray, List.set_cons_zero, List.set_cons_succ]
  refine wpAnyH_take (i := 4) (oi := _) (v := ?_) rfl (by kernel_rfl) (by kernel_rfl) (by kernel_rfl) (fun _ _ _ h => h) (Or.inl ⟨by kernel_rfl, ?_⟩) (by assumption) ?_
  rotate_left
  · intro w hSw; (try dsimp only at hSw); go_simp; first | done | with_reducible rfl
  try simp only [List.getElem_toArray, List.getElem_cons_zero, List.getElem_cons_succ, Act.put, List.setIfInBounds_toArray, List.set_cons_zero, List.set_cons_succ]
  refine wpAnyH_done (by kernel_rfl) ?_ _
  clear Rc0
  go_wp2_with fail
  go_ret
  exact ⟨rfl, B⟩

theorem big0 (X0 Y0 : Int) (h0 : Nat → Int) (A0 : Option Addr) (n0 ca0 : Nat) (c0 : Nat → Int) (a1 b1 : Int) (w : World)  (hn : 1048576 < n0) (hm : n0 ≤ 9223372036854775807) :
    Calls Try.prog 5 #[.agg (gV X0 Y0 h0 (.slice A0 n0 ca0)), .agg #[.int .i8 a1, .int .i8 b1]] w fun e w' => e = .returned (.bool true) ∧ Below w.heap.size w w' := by
  have B : Below w.heap.size w w := Below.refl _ _
  go_enter Try.func5, Try.ntmps5
  have P0 := ((Bx.new w (gV X0 Y0 h0 (.slice A0 n0 ca0)) 28).alloc (Obj.cells #[.int .i8 a1, .int .i8 b1] 39))
  have P1 := (Bx.newAt (w.alloc (Obj.cells (gV X0 Y0 h0 (.slice A0 n0 ca0)) 28)) (w.heap.size + 1) #[.int .i8 a1, .int .i8 b1] 39 (by simp))
  replace B := (al (al B (Obj.cells (gV X0 Y0 h0 (.slice A0 n0 ca0)) 28)) (Obj.cells #[.int .i8 a1, .int .i8 b1] 39))
  go_wp2_with (refine wpList_load_box P0 rfl _ _ rfl rfl _ Try.underlying28 rfl (infoLGv _ _ _ _) ?_)
  refine (szGround_big X0 Y0 (1048576) h0 A0 n0 ca0 _ (by omega) (by omega) (by omega) hm).mono ?_
  rintro e w33 ⟨rfl, hb⟩
  replace P0 := P0.below hb
  replace P1 := P1.below hb
  replace B := nxt B hb
  clear hb
  go_wp2_with fail
  go_ret
  exact ⟨rfl, B⟩

theorem walk (X0 Y0 : Int) (h0 : Nat → Int) (A0 : Option Addr) (n0 ca0 : Nat) (c0 : Nat → Int) (a1 b1 : Int) (w : World) (bX0 : -128 ≤ X0 ∧ X0 ≤ 127) (bY0 : -128 ≤ Y0 ∧ Y0 ≤ 127) (bh0 : ∀ p, -32768 ≤ h0 p ∧ h0 p ≤ 32767) (hm0 : n0 ≤ 9223372036854775807) (hc0 : ∀ j, -128 ≤ c0 j ∧ c0 j ≤ 127) (ba1 : -128 ≤ a1 ∧ a1 ≤ 127) (bb1 : -128 ≤ b1 ∧ b1 ≤ 127)
    (hr0 : RdK .i8 w w.heap.size A0 (2 * n0) c0) :
    Calls Try.prog 5 #[.agg (gV X0 Y0 h0 (.slice A0 n0 ca0)), .agg #[.int .i8 a1, .int .i8 b1]] w fun e w' => e = .returned (.bool true) ∧ Below w.heap.size w w' := by
  by_cases hn0 : 1048576 < n0
  · exact big0 X0 Y0 h0 A0 n0 ca0 c0 a1 b1 w  hn0 hm0
  obtain ⟨p0, q0, z1, z2, hS, hI⟩ := both X0 Y0 h0 n0 c0 a1 b1 bX0 bY0 bh0 hc0 (by omega) ba1 bb1
  exact law X0 Y0 h0 A0 n0 ca0 c0 a1 b1 p0 q0 z1 z2 w (by omega) hr0 (fun W G0 _ R0 => hS W G0 R0) (fun W G0 _ R0 => hI W G0 R0)

end Go.Proofs.Ytegnhpanlbfmdaa.fallAt
