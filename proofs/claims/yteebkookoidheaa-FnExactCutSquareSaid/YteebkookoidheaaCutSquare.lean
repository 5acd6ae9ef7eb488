/-
  FnExactCutSquare: at every argument CutSquare answers as its model, writes into no argument, and its answer owns its memory. No condition.
-/
import Derived.Test.YteebkookoidheaaRows
import Derived.Test.YteebkookoidheaaC2
import Derived.Test.YteebkookoidheaaOpenS
import Derived.Test.YteebkookoidheaaResSq
import Derived.Test.YteebkookoidheaaCutSquareB
import Derived.Deep.RegionHeld3
import Derived.Deep.DeepCutAuto
import Derived.Test.YteebkookoidheaaRet
import Derived.Lib.SmallJoins
namespace Go.Proofs.Yteebkookoidheaa.cutSquare
open Go Go.ChangeShapes Go.WideShapes Go.ChangeAt Go.RowKit
set_option linter.unusedVariables false
set_option linter.unusedSimpArgs false
set_option maxRecDepth 100000
set_option maxHeartbeats 2000000

theorem law (x y : Int) (A : Option Addr) (n ca : Nat) (c : Nat → Int) (a0 a1 a2 a3 : Int) (rx ry z1 : Int) (nn : Nat) (ff : Nat → Int) (w : World) (hn : n ≤ 1048576) (hnn : nn ≤ 1000)
    (hr : Rd8 w w.heap.size A (4 * n) c)
    (hS : ∀ (W : World) (g : Nat), w.heap.size ≤ W.heap.size → W.rowIs g 31 (4 * n) (fun j => .int .i8 (c j)) →
      Calls Try.prog 30 #[.agg #[.int .i8 x, .int .i8 y, .slice (some ⟨g, 0, none⟩) n n], .agg #[.int .i8 a0, .int .i8 a1, .int .i8 a2, .int .i8 a3]] W fun e w' => Below W.heap.size W w' ∧ ∃ v, e = .returned (.tuple #[.agg #[.int .i8 rx, .int .i8 ry, v], .int .i64 z1]) ∧ HasSlice .i8 4 w' W.heap.size v nn ff)
    (hI : ∀ (W : World) (g : Nat), w.heap.size ≤ W.heap.size → W.rowIs g 31 (4 * n) (fun j => .int .i8 (c j)) →
      Calls Try.prog 31 #[.agg #[.int .i8 x, .int .i8 y, .slice (some ⟨g, 0, none⟩) n n], .agg #[.int .i8 a0, .int .i8 a1, .int .i8 a2, .int .i8 a3]] W fun e w' => Below W.heap.size W w' ∧ ∃ v, e = .returned (.tuple #[.agg #[.int .i8 rx, .int .i8 ry, v], .int .i64 z1]) ∧ HasSlice .i8 4 w' W.heap.size v nn ff) :
    Calls Try.prog 7 #[.agg #[.int .i8 x, .int .i8 y, .slice A n ca], .agg #[.int .i8 a0, .int .i8 a1, .int .i8 a2, .int .i8 a3]] w fun e w' => e = .returned (.bool true) ∧ Below w.heap.size w w' := by
  have HS := Lib.hid hS
  have HI := Lib.hid hI
  have hz0 : 0 ≤ 1048576 - (n : Int) := by omega
  have HR := Lib.hid hr
  have B : Below w.heap.size w w := Below.refl _ _
  clear hS hI hr
  go_enter Try.func7, Try.ntmps7
  go_wp2_with fail
  refine (szSquare_ok x y 1048576 A n ca _ (by omega) (by omega) (by omega)).mono ?_
  rintro e w1 ⟨rfl, hb⟩
  have H2 := ((Sq.new w x y (.slice A n ca) 25).alloc (.cells #[.int .i8 a0, .int .i8 a1, .int .i8 a2, .int .i8 a3] 39)).below hb
  have H3 : Sl w1 (w.heap.size + 1) a0 a1 a2 a3 := by
    have := (Sl.new (w.alloc (.cells #[.int .i8 x, .int .i8 y, .slice A n ca] 25)) a0 a1 a2 a3 39).below hb
    rwa [World.size_alloc] at this
  replace B := nxt (al (al B _) _) hb
  have k2 : w.heap.size < w1.heap.size := H2.1
  clear hb
  obtain ⟨l2, p2, q2, r2⟩ := id H2
  obtain ⟨l3, p3, q3, r3, s3⟩ := id H3
  have hrrz1 : (z1 != z1) = false := by simp
  go_wp2_with fail
  go_upto_region 5 with fail
  go_cut [6, 7] (fun t6 t7 wx => ∃ (b5 : Nat) (A5 : Option Addr) (g5 cap5 base5 : Nat), t6 = .pointer (some ⟨b5, 0, none⟩) ∧ t7 = .int .i64 z1 ∧ Below w.heap.size w wx ∧ Sq wx w.heap.size x y (.slice A n ca) ∧ Sl wx (w.heap.size + 1) a0 a1 a2 a3 ∧ Sq wx b5 rx ry (.slice A5 nn cap5) ∧ SliceOf .i8 4 wx base5 (.slice A5 nn cap5) nn ff A5 g5 cap5)
  case first =>
    replace B := B.drew
    replace H2 : Sq w1.drew _ _ _ _ := H2
    replace H3 : Sl w1.drew _ _ _ _ _ := H3
    clear l2 p2 q2 r2 l3 p3 q3 r3 s3
    obtain ⟨l2, p2, q2, r2⟩ := id H2
    obtain ⟨l3, p3, q3, r3, s3⟩ := id H3
    refine wp_region_held_drew (S := (fun w' => w'.cell? ⟨w.heap.size, 0, none⟩ = some (.int .i8 x) ∧ w'.cell? ⟨w.heap.size, 1, none⟩ = some (.int .i8 y) ∧ w'.cell? ⟨w.heap.size, 2, none⟩ = some (.slice A n ca) ∧ w'.cell? ⟨w.heap.size + 1, 0, none⟩ = some (.int .i8 a0) ∧ w'.cell? ⟨w.heap.size + 1, 1, none⟩ = some (.int .i8 a1) ∧ w'.cell? ⟨w.heap.size + 1, 2, none⟩ = some (.int .i8 a2) ∧ w'.cell? ⟨w.heap.size + 1, 3, none⟩ = some (.int .i8 a3))) (by kernel_rfl) ⟨p2, q2, r2, p3, q3, r3, s3⟩ (fun hHeld => ?_)
    obtain ⟨w0, hw0⟩ : ∃ w0, w1.drew = w0 := ⟨_, rfl⟩
    rw [hw0] at hHeld B H2 H3 l2 p2 q2 r2 l3 p3 q3 r3 s3 ⊢
    clear hw0
    refine wpAnyH_take (i := 0) (oi := _) (v := ?_) rfl (by kernel_rfl) (by kernel_rfl) (by kernel_rfl) (fun _ _ _ h => h) (Or.inl ⟨by kernel_rfl, ?_⟩) (by assumption) ?_
    rotate_left
    · intro w hSw; (try dsimp only at hSw); go_simp; first | done | with_reducible rfl
    try simp only [List.getElem_toArray, List.getElem_cons_zero, List.getElem_cons_succ, Act.put, List.setIfInBounds_toArray, List.set_cons_zero, List.set_cons_succ]
    refine wpAnyH_take (i := 2) (oi := _) (v := ?_) rfl (by kernel_rfl) (by kernel_rfl) (by kernel_rfl) (fun _ _ _ h => h) (Or.inl ⟨by kernel_rfl, ?_⟩) (by assumption) ?_
    rotate_left
    · intro w hSw; (try dsimp only at hSw); go_simp; first | done | with_reducible rfl
    try simp only [List.getElem_toArray, List.getElem_cons_zero, List.getElem_cons_succ, Act.put, List.setIfInBounds_toArray, List.set_cons_zero, List.set_cons_succ]
    refine wpAnyH_ready (rs := [1, 8]) (by kernel_rfl) (by simp) ?_
    refine AllReadyH.cons (o := _) rfl (fun K hK => ?_) (AllReadyH.cons (o := _) rfl (fun K hK => ?_) AllReadyH.nil)
    rotate_left
    · skip
      go_simp
      have HB := Bx.new w0 #[.int .i8 0, .int .i8 0, .slice none 0 0] 29
      replace H2 := H2.alloc (.cells #[.int .i8 0, .int .i8 0, .slice none 0 0] 29)
      replace H3 := H3.alloc (.cells #[.int .i8 0, .int .i8 0, .slice none 0 0] 29)
      have nb2 : w.heap.size < w0.heap.size := l2
      have nb3 : (w.heap.size + 1) < w0.heap.size := l3
      have nbw : w.heap.size ≤ w0.heap.size := B.size
      replace B := al B (.cells #[.int .i8 0, .int .i8 0, .slice none 0 0] 29)
      obtain ⟨wa1, hwa⟩ : ∃ wa1, w0.alloc (.cells #[.int .i8 0, .int .i8 0, .slice none 0 0] 29) = wa1 := ⟨_, rfl⟩
      rw [hwa] at HB B H2 H3 ⊢
      clear hwa l2 p2 q2 r2 l3 p3 q3 r3 s3
      obtain ⟨l2, p2, q2, r2⟩ := id H2
      obtain ⟨l3, p3, q3, r3, s3⟩ := id H3
      refine hK.out _ _ ⟨p2, q2, r2, p3, q3, r3, s3⟩ (fun hHeld => ?_)
      clear hK K
      try simp only [List.getElem_toArray, List.getElem_cons_zero, List.getElem_cons_succ, Act.put, List.setIfInBounds_toArray, List.set_cons_zero, List.set_cons_succ]
      refine wpAnyH_ready (rs := [1]) (by kernel_rfl) (by simp) ?_
      refine AllReadyH.cons (o := _) rfl (fun K hK => ?_) AllReadyH.nil
      go_simp
      refine (toSquare_any x y A n ca w.heap.size c _ (by omega) B.size (HR.out.below B)).mono ?_
      rintro e w3 ⟨g1, rfl, hg1, hb, R1⟩
      replace H2 := H2.below hb
      replace H3 := H3.below hb
      replace HB := HB.below hb
      replace B := nxt B hb
      clear hb l2 p2 q2 r2 l3 p3 q3 r3 s3
      obtain ⟨l2, p2, q2, r2⟩ := id H2
      obtain ⟨l3, p3, q3, r3, s3⟩ := id H3
      refine hK.out _ _ ⟨p2, q2, r2, p3, q3, r3, s3⟩ (fun hHeld => ?_)
      clear hK K
      try simp only [List.getElem_toArray, List.getElem_cons_zero, List.getElem_cons_succ, Act.put, List.setIfInBounds_toArray, List.set_cons_zero, List.set_cons_succ]
      refine wpAnyH_ready (rs := [3]) (by kernel_rfl) (by simp) ?_
      refine AllReadyH.cons (o := _) rfl (fun K hK => ?_) AllReadyH.nil
      go_simp
      refine (toSlab_any a0 a1 a2 a3 _).mono ?_
      rintro e w4 ⟨rfl, hb⟩
      replace H2 := H2.below hb
      replace H3 := H3.below hb
      replace R1 := rowNext0 R1 hb
      replace HB := HB.below hb
      replace B := nxt B hb
      clear hb l2 p2 q2 r2 l3 p3 q3 r3 s3
      obtain ⟨l2, p2, q2, r2⟩ := id H2
      obtain ⟨l3, p3, q3, r3, s3⟩ := id H3
      refine hK.out _ _ ⟨p2, q2, r2, p3, q3, r3, s3⟩ (fun hHeld => ?_)
      clear hK K
      try simp only [List.getElem_toArray, List.getElem_cons_zero, List.getElem_cons_succ, Act.put, List.setIfInBounds_toArray, List.set_cons_zero, List.set_cons_succ]
      refine wpAnyH_ready (rs := [4]) (by kernel_rfl) (by simp) ?_
      refine AllReadyH.cons (o := _) rfl (fun K hK => ?_) AllReadyH.nil
      go_simp
      refine (HS.out _ g1 B.size R1).mono ?_
      rintro e w5 ⟨hb, v5, rfl, A5, g5, cap5, S5⟩
      obtain rfl := S5.1
      have ng : 0 < nn → g5 ≠ w0.heap.size := fun h => by have := (S5.2.1 h).2.1; have := HB.lt; omega
      replace H2 := H2.below hb
      replace H3 := H3.below hb
      replace R1 := rowNext0 R1 hb
      replace HB := HB.below hb
      replace B := nxt B hb
      clear hb l2 p2 q2 r2 l3 p3 q3 r3 s3
      obtain ⟨l2, p2, q2, r2⟩ := id H2
      obtain ⟨l3, p3, q3, r3, s3⟩ := id H3
      refine hK.out _ _ ⟨p2, q2, r2, p3, q3, r3, s3⟩ (fun hHeld => ?_)
      clear hK K
      try simp only [List.getElem_toArray, List.getElem_cons_zero, List.getElem_cons_succ, Act.put, List.setIfInBounds_toArray, List.set_cons_zero, List.set_cons_succ]
      refine wpAnyH_take (i := 5) (oi := _) (v := ?_) rfl (by kernel_rfl) (by kernel_rfl) (by kernel_rfl) (fun _ _ _ h => h) (Or.inl ⟨by kernel_rfl, ?_⟩) (by assumption) ?_
      rotate_left
      · intro w hSw; (try dsimp only at hSw); go_simp; first | done | with_reducible rfl
      try simp only [List.getElem_toArray, List.getElem_cons_zero, List.getElem_cons_succ, Act.put, List.setIfInBounds_toArray, List.set_cons_zero, List.set_cons_succ]
      refine wpAnyH_take (i := 6) (oi := _) (v := ?_) rfl (by kernel_rfl) (by kernel_rfl) (by kernel_rfl) (fun _ _ _ h => h) (Or.inl ⟨by kernel_rfl, ?_⟩) (by assumption) ?_
      rotate_left
      · intro w hSw; (try dsimp only at hSw); go_simp; first | done | with_reducible rfl
      try simp only [List.getElem_toArray, List.getElem_cons_zero, List.getElem_cons_succ, Act.put, List.setIfInBounds_toArray, List.set_cons_zero, List.set_cons_succ]
      refine wpAnyH_take (i := 7) (oi := _) (v := ?_) rfl (by kernel_rfl) (by kernel_rfl) (by kernel_rfl) (fun _ _ _ h => h) (Or.inl ⟨by kernel_rfl, ?_⟩) (by assumption) ?_
      rotate_left
      · intro w hSw; (try dsimp only at hSw); go_simp; first | done | with_reducible rfl
      try simp only [List.getElem_toArray, List.getElem_cons_zero, List.getElem_cons_succ, Act.put, List.setIfInBounds_toArray, List.set_cons_zero, List.set_cons_succ]
      obtain ⟨pB, qB, rB⟩ := HB.cells3
      have fB0 := HB.frozen 0
      have fB1 := HB.frozen 1
      have fB2 := HB.frozen 2
      have GB := HB.set3 (.int .i8 rx) (.int .i8 ry) (.slice A5 nn cap5)
      have B' := below_set3 (g := w0.heap.size) (v0 := .int .i8 rx) (v1 := .int .i8 ry) (v2 := .slice A5 nn cap5) B nbw
      have G2 : Sq (((w5.setCell ⟨w0.heap.size, 0, none⟩ (.int .i8 rx)).setCell ⟨w0.heap.size, 1, none⟩ (.int .i8 ry)).setCell ⟨w0.heap.size, 2, none⟩ (.slice A5 nn cap5)) _ _ _ _ := H2.of_block (by simp) (blk3 (by omega))
      have G3 : Sl (((w5.setCell ⟨w0.heap.size, 0, none⟩ (.int .i8 rx)).setCell ⟨w0.heap.size, 1, none⟩ (.int .i8 ry)).setCell ⟨w0.heap.size, 2, none⟩ (.slice A5 nn cap5)) _ _ _ _ _ := H3.of_block (by simp) (blk3 (by omega))
      have GS5 := S5.kept (w' := (((w5.setCell ⟨w0.heap.size, 0, none⟩ (.int .i8 rx)).setCell ⟨w0.heap.size, 1, none⟩ (.int .i8 ry)).setCell ⟨w0.heap.size, 2, none⟩ (.slice A5 nn cap5))) (by simp) (fun h => blk3 (ng h))
      refine wpAnyH_ready (rs := [9]) (by kernel_rfl) (by simp) ?_
      refine AllReadyH.cons (o := _) rfl (fun K hK => ?_) AllReadyH.nil
      go_simp
      refine hK.out _ _ ⟨G2.2.1, G2.2.2.1, G2.2.2.2, G3.2.1, G3.2.2.1, G3.2.2.2.1, G3.2.2.2.2⟩ (fun hHeld => ?_)
      clear hK K
      try simp only [List.getElem_toArray, List.getElem_cons_zero, List.getElem_cons_succ, Act.put, List.setIfInBounds_toArray, List.set_cons_zero, List.set_cons_succ]
      refine wpAnyH_take (i := 10) (oi := _) (v := ?_) rfl (by kernel_rfl) (by kernel_rfl) (by kernel_rfl) (fun _ _ _ h => h) (Or.inl ⟨by kernel_rfl, ?_⟩) (by assumption) ?_
      rotate_left
      · intro w hSw; (try dsimp only at hSw); go_simp; first | done | with_reducible rfl
      try simp only [List.getElem_toArray, List.getElem_cons_zero, List.getElem_cons_succ, Act.put, List.setIfInBounds_toArray, List.set_cons_zero, List.set_cons_succ]
      refine wpAnyH_done (by kernel_rfl) ?_ _
      go_wp2_with fail
      go_meet
      exact ⟨_, A5, g5, cap5, _, rfl, rfl, B', G2, G3, ⟨GB.lt, GB.cells3.1, GB.cells3.2.1, GB.cells3.2.2⟩, GS5⟩
    · skip
      go_simp
      refine (toSquare_any x y A n ca w.heap.size c _ (by omega) B.size (HR.out.below B)).mono ?_
      rintro e w3 ⟨g1, rfl, hg1, hb, R1⟩
      replace H2 := H2.below hb
      replace H3 := H3.below hb
      replace B := nxt B hb
      clear hb l2 p2 q2 r2 l3 p3 q3 r3 s3
      obtain ⟨l2, p2, q2, r2⟩ := id H2
      obtain ⟨l3, p3, q3, r3, s3⟩ := id H3
      refine hK.out _ _ ⟨p2, q2, r2, p3, q3, r3, s3⟩ (fun hHeld => ?_)
      clear hK K
      try simp only [List.getElem_toArray, List.getElem_cons_zero, List.getElem_cons_succ, Act.put, List.setIfInBounds_toArray, List.set_cons_zero, List.set_cons_succ]
      refine wpAnyH_ready (rs := [3, 8]) (by kernel_rfl) (by simp) ?_
      refine AllReadyH.cons (o := _) rfl (fun K hK => ?_) (AllReadyH.cons (o := _) rfl (fun K hK => ?_) AllReadyH.nil)
      rotate_left
      · skip
        go_simp
        have HB := Bx.new w3 #[.int .i8 0, .int .i8 0, .slice none 0 0] 29
        replace H2 := H2.alloc (.cells #[.int .i8 0, .int .i8 0, .slice none 0 0] 29)
        replace H3 := H3.alloc (.cells #[.int .i8 0, .int .i8 0, .slice none 0 0] 29)
        replace R1 := R1.alloc (.cells #[.int .i8 0, .int .i8 0, .slice none 0 0] 29)
        have nb2 : w.heap.size < w3.heap.size := l2
        have nb3 : (w.heap.size + 1) < w3.heap.size := l3
        have nbw : w.heap.size ≤ w3.heap.size := B.size
        replace B := al B (.cells #[.int .i8 0, .int .i8 0, .slice none 0 0] 29)
        obtain ⟨wa2, hwa⟩ : ∃ wa2, w3.alloc (.cells #[.int .i8 0, .int .i8 0, .slice none 0 0] 29) = wa2 := ⟨_, rfl⟩
        rw [hwa] at HB B H2 H3 R1 ⊢
        clear hwa l2 p2 q2 r2 l3 p3 q3 r3 s3
        obtain ⟨l2, p2, q2, r2⟩ := id H2
        obtain ⟨l3, p3, q3, r3, s3⟩ := id H3
        refine hK.out _ _ ⟨p2, q2, r2, p3, q3, r3, s3⟩ (fun hHeld => ?_)
        clear hK K
        try simp only [List.getElem_toArray, List.getElem_cons_zero, List.getElem_cons_succ, Act.put, List.setIfInBounds_toArray, List.set_cons_zero, List.set_cons_succ]
        refine wpAnyH_ready (rs := [3]) (by kernel_rfl) (by simp) ?_
        refine AllReadyH.cons (o := _) rfl (fun K hK => ?_) AllReadyH.nil
        go_simp
        refine (toSlab_any a0 a1 a2 a3 _).mono ?_
        rintro e w4 ⟨rfl, hb⟩
        replace H2 := H2.below hb
        replace H3 := H3.below hb
        replace R1 := rowNext0 R1 hb
        replace HB := HB.below hb
        replace B := nxt B hb
        clear hb l2 p2 q2 r2 l3 p3 q3 r3 s3
        obtain ⟨l2, p2, q2, r2⟩ := id H2
        obtain ⟨l3, p3, q3, r3, s3⟩ := id H3
        refine hK.out _ _ ⟨p2, q2, r2, p3, q3, r3, s3⟩ (fun hHeld => ?_)
        clear hK K
        try simp only [List.getElem_toArray, List.getElem_cons_zero, List.getElem_cons_succ, Act.put, List.setIfInBounds_toArray, List.set_cons_zero, List.set_cons_succ]
        refine wpAnyH_ready (rs := [4]) (by kernel_rfl) (by simp) ?_
        refine AllReadyH.cons (o := _) rfl (fun K hK => ?_) AllReadyH.nil
        go_simp
        refine (HS.out _ g1 B.size R1).mono ?_
        rintro e w5 ⟨hb, v5, rfl, A5, g5, cap5, S5⟩
        obtain rfl := S5.1
        have ng : 0 < nn → g5 ≠ w3.heap.size := fun h => by have := (S5.2.1 h).2.1; have := HB.lt; omega
        replace H2 := H2.below hb
        replace H3 := H3.below hb
        replace R1 := rowNext0 R1 hb
        replace HB := HB.below hb
        replace B := nxt B hb
        clear hb l2 p2 q2 r2 l3 p3 q3 r3 s3
        obtain ⟨l2, p2, q2, r2⟩ := id H2
        obtain ⟨l3, p3, q3, r3, s3⟩ := id H3
        refine hK.out _ _ ⟨p2, q2, r2, p3, q3, r3, s3⟩ (fun hHeld => ?_)
        clear hK K
        try simp only [List.getElem_toArray, List.getElem_cons_zero, List.getElem_cons_succ, Act.put, List.setIfInBounds_toArray, List.set_cons_zero, List.set_cons_succ]
        refine wpAnyH_take (i := 5) (oi := _) (v := ?_) rfl (by kernel_rfl) (by kernel_rfl) (by kernel_rfl) (fun _ _ _ h => h) (Or.inl ⟨by kernel_rfl, ?_⟩) (by assumption) ?_
        rotate_left
        · intro w hSw; (try dsimp only at hSw); go_simp; first | done | with_reducible rfl
        try simp only [List.getElem_toArray, List.getElem_cons_zero, List.getElem_cons_succ, Act.put, List.setIfInBounds_toArray, List.set_cons_zero, List.set_cons_succ]
        refine wpAnyH_take (i := 6) (oi := _) (v := ?_) rfl (by kernel_rfl) (by kernel_rfl) (by kernel_rfl) (fun _ _ _ h => h) (Or.inl ⟨by kernel_rfl, ?_⟩) (by assumption) ?_
        rotate_left
        · intro w hSw; (try dsimp only at hSw); go_simp; first | done | with_reducible rfl
        try simp only [List.getElem_toArray, List.getElem_cons_zero, List.getElem_cons_succ, Act.put, List.setIfInBounds_toArray, List.set_cons_zero, List.set_cons_succ]
        refine wpAnyH_take (i := 7) (oi := _) (v := ?_) rfl (by kernel_rfl) (by kernel_rfl) (by kernel_rfl) (fun _ _ _ h => h) (Or.inl ⟨by kernel_rfl, ?_⟩) (by assumption) ?_
        rotate_left
        · intro w hSw; (try dsimp only at hSw); go_simp; first | done | with_reducible rfl
        try simp only [List.getElem_toArray, List.getElem_cons_zero, List.getElem_cons_succ, Act.put, List.setIfInBounds_toArray, List.set_cons_zero, List.set_cons_succ]
        obtain ⟨pB, qB, rB⟩ := HB.cells3
        have fB0 := HB.frozen 0
        have fB1 := HB.frozen 1
        have fB2 := HB.frozen 2
        have GB := HB.set3 (.int .i8 rx) (.int .i8 ry) (.slice A5 nn cap5)
        have B' := below_set3 (g := w3.heap.size) (v0 := .int .i8 rx) (v1 := .int .i8 ry) (v2 := .slice A5 nn cap5) B nbw
        have G2 : Sq (((w5.setCell ⟨w3.heap.size, 0, none⟩ (.int .i8 rx)).setCell ⟨w3.heap.size, 1, none⟩ (.int .i8 ry)).setCell ⟨w3.heap.size, 2, none⟩ (.slice A5 nn cap5)) _ _ _ _ := H2.of_block (by simp) (blk3 (by omega))
        have G3 : Sl (((w5.setCell ⟨w3.heap.size, 0, none⟩ (.int .i8 rx)).setCell ⟨w3.heap.size, 1, none⟩ (.int .i8 ry)).setCell ⟨w3.heap.size, 2, none⟩ (.slice A5 nn cap5)) _ _ _ _ _ := H3.of_block (by simp) (blk3 (by omega))
        have GS5 := S5.kept (w' := (((w5.setCell ⟨w3.heap.size, 0, none⟩ (.int .i8 rx)).setCell ⟨w3.heap.size, 1, none⟩ (.int .i8 ry)).setCell ⟨w3.heap.size, 2, none⟩ (.slice A5 nn cap5))) (by simp) (fun h => blk3 (ng h))
        refine wpAnyH_ready (rs := [9]) (by kernel_rfl) (by simp) ?_
        refine AllReadyH.cons (o := _) rfl (fun K hK => ?_) AllReadyH.nil
        go_simp
        refine hK.out _ _ ⟨G2.2.1, G2.2.2.1, G2.2.2.2, G3.2.1, G3.2.2.1, G3.2.2.2.1, G3.2.2.2.2⟩ (fun hHeld => ?_)
        clear hK K
        try simp only [List.getElem_toArray, List.getElem_cons_zero, List.getElem_cons_succ, Act.put, List.setIfInBounds_toArray, List.set_cons_zero, List.set_cons_succ]
        refine wpAnyH_take (i := 10) (oi := _) (v := ?_) rfl (by kernel_rfl) (by kernel_rfl) (by kernel_rfl) (fun _ _ _ h => h) (Or.inl ⟨by kernel_rfl, ?_⟩) (by assumption) ?_
        rotate_left
        · intro w hSw; (try dsimp only at hSw); go_simp; first | done | with_reducible rfl
        try simp only [List.getElem_toArray, List.getElem_cons_zero, List.getElem_cons_succ, Act.put, List.setIfInBounds_toArray, List.set_cons_zero, List.set_cons_succ]
        refine wpAnyH_done (by kernel_rfl) ?_ _
        go_wp2_with fail
        go_meet
        exact ⟨_, A5, g5, cap5, _, rfl, rfl, B', G2, G3, ⟨GB.lt, GB.cells3.1, GB.cells3.2.1, GB.cells3.2.2⟩, GS5⟩
      · skip
        go_simp
        refine (toSlab_any a0 a1 a2 a3 _).mono ?_
        rintro e w4 ⟨rfl, hb⟩
        replace H2 := H2.below hb
        replace H3 := H3.below hb
        replace R1 := rowNext0 R1 hb
        replace B := nxt B hb
        clear hb l2 p2 q2 r2 l3 p3 q3 r3 s3
        obtain ⟨l2, p2, q2, r2⟩ := id H2
        obtain ⟨l3, p3, q3, r3, s3⟩ := id H3
        refine hK.out _ _ ⟨p2, q2, r2, p3, q3, r3, s3⟩ (fun hHeld => ?_)
        clear hK K
        try simp only [List.getElem_toArray, List.getElem_cons_zero, List.getElem_cons_succ, Act.put, List.setIfInBounds_toArray, List.set_cons_zero, List.set_cons_succ]
        refine wpAnyH_ready (rs := [4, 8]) (by kernel_rfl) (by simp) ?_
        refine AllReadyH.cons (o := _) rfl (fun K hK => ?_) (AllReadyH.cons (o := _) rfl (fun K hK => ?_) AllReadyH.nil)
        rotate_left
        · skip
          go_simp
          have HB := Bx.new w4 #[.int .i8 0, .int .i8 0, .slice none 0 0] 29
          replace H2 := H2.alloc (.cells #[.int .i8 0, .int .i8 0, .slice none 0 0] 29)
          replace H3 := H3.alloc (.cells #[.int .i8 0, .int .i8 0, .slice none 0 0] 29)
          replace R1 := R1.alloc (.cells #[.int .i8 0, .int .i8 0, .slice none 0 0] 29)
          have nb2 : w.heap.size < w4.heap.size := l2
          have nb3 : (w.heap.size + 1) < w4.heap.size := l3
          have nbw : w.heap.size ≤ w4.heap.size := B.size
          replace B := al B (.cells #[.int .i8 0, .int .i8 0, .slice none 0 0] 29)
          obtain ⟨wa3, hwa⟩ : ∃ wa3, w4.alloc (.cells #[.int .i8 0, .int .i8 0, .slice none 0 0] 29) = wa3 := ⟨_, rfl⟩
          rw [hwa] at HB B H2 H3 R1 ⊢
          clear hwa l2 p2 q2 r2 l3 p3 q3 r3 s3
          obtain ⟨l2, p2, q2, r2⟩ := id H2
          obtain ⟨l3, p3, q3, r3, s3⟩ := id H3
          refine hK.out _ _ ⟨p2, q2, r2, p3, q3, r3, s3⟩ (fun hHeld => ?_)
          clear hK K
          try simp only [List.getElem_toArray, List.getElem_cons_zero, List.getElem_cons_succ, Act.put, List.setIfInBounds_toArray, List.set_cons_zero, List.set_cons_succ]
          refine wpAnyH_ready (rs := [4]) (by kernel_rfl) (by simp) ?_
          refine AllReadyH.cons (o := _) rfl (fun K hK => ?_) AllReadyH.nil
          go_simp
          refine (HS.out _ g1 B.size R1).mono ?_
          rintro e w5 ⟨hb, v5, rfl, A5, g5, cap5, S5⟩
          obtain rfl := S5.1
          have ng : 0 < nn → g5 ≠ w4.heap.size := fun h => by have := (S5.2.1 h).2.1; have := HB.lt; omega
          replace H2 := H2.below hb
          replace H3 := H3.below hb
          replace R1 := rowNext0 R1 hb
          replace HB := HB.below hb
          replace B := nxt B hb
          clear hb l2 p2 q2 r2 l3 p3 q3 r3 s3
          obtain ⟨l2, p2, q2, r2⟩ := id H2
          obtain ⟨l3, p3, q3, r3, s3⟩ := id H3
          refine hK.out _ _ ⟨p2, q2, r2, p3, q3, r3, s3⟩ (fun hHeld => ?_)
          clear hK K
          try simp only [List.getElem_toArray, List.getElem_cons_zero, List.getElem_cons_succ, Act.put, List.setIfInBounds_toArray, List.set_cons_zero, List.set_cons_succ]
          refine wpAnyH_take (i := 5) (oi := _) (v := ?_) rfl (by kernel_rfl) (by kernel_rfl) (by kernel_rfl) (fun _ _ _ h => h) (Or.inl ⟨by kernel_rfl, ?_⟩) (by assumption) ?_
          rotate_left
          · intro w hSw; (try dsimp only at hSw); go_simp; first | done | with_reducible rfl
          try simp only [List.getElem_toArray, List.getElem_cons_zero, List.getElem_cons_succ, Act.put, List.setIfInBounds_toArray, List.set_cons_zero, List.set_cons_succ]
          refine wpAnyH_take (i := 6) (oi := _) (v := ?_) rfl (by kernel_rfl) (by kernel_rfl) (by kernel_rfl) (fun _ _ _ h => h) (Or.inl ⟨by kernel_rfl, ?_⟩) (by assumption) ?_
          rotate_left
          · intro w hSw; (try dsimp only at hSw); go_simp; first | done | with_reducible rfl
          try simp only [List.getElem_toArray, List.getElem_cons_zero, List.getElem_cons_succ, Act.put, List.setIfInBounds_toArray, List.set_cons_zero, List.set_cons_succ]
          refine wpAnyH_take (i := 7) (oi := _) (v := ?_) rfl (by kernel_rfl) (by kernel_rfl) (by kernel_rfl) (fun _ _ _ h => h) (Or.inl ⟨by kernel_rfl, ?_⟩) (by assumption) ?_
          rotate_left
          · intro w hSw; (try dsimp only at hSw); go_simp; first | done | with_reducible rfl
          try simp only [List.getElem_toArray, List.getElem_cons_zero, List.getElem_cons_succ, Act.put, List.setIfInBounds_toArray, List.set_cons_zero, List.set_cons_succ]
          obtain ⟨pB, qB, rB⟩ := HB.cells3
          have fB0 := HB.frozen 0
          have fB1 := HB.frozen 1
          have fB2 := HB.frozen 2
          have GB := HB.set3 (.int .i8 rx) (.int .i8 ry) (.slice A5 nn cap5)
          have B' := below_set3 (g := w4.heap.size) (v0 := .int .i8 rx) (v1 := .int .i8 ry) (v2 := .slice A5 nn cap5) B nbw
          have G2 : Sq (((w5.setCell ⟨w4.heap.size, 0, none⟩ (.int .i8 rx)).setCell ⟨w4.heap.size, 1, none⟩ (.int .i8 ry)).setCell ⟨w4.heap.size, 2, none⟩ (.slice A5 nn cap5)) _ _ _ _ := H2.of_block (by simp) (blk3 (by omega))
          have G3 : Sl (((w5.setCell ⟨w4.heap.size, 0, none⟩ (.int .i8 rx)).setCell ⟨w4.heap.size, 1, none⟩ (.int .i8 ry)).setCell ⟨w4.heap.size, 2, none⟩ (.slice A5 nn cap5)) _ _ _ _ _ := H3.of_block (by simp) (blk3 (by omega))
          have GS5 := S5.kept (w' := (((w5.setCell ⟨w4.heap.size, 0, none⟩ (.int .i8 rx)).setCell ⟨w4.heap.size, 1, none⟩ (.int .i8 ry)).setCell ⟨w4.heap.size, 2, none⟩ (.slice A5 nn cap5))) (by simp) (fun h => blk3 (ng h))
          refine wpAnyH_ready (rs := [9]) (by kernel_rfl) (by simp) ?_
          refine AllReadyH.cons (o := _) rfl (fun K hK => ?_) AllReadyH.nil
          go_simp
          refine hK.out _ _ ⟨G2.2.1, G2.2.2.1, G2.2.2.2, G3.2.1, G3.2.2.1, G3.2.2.2.1, G3.2.2.2.2⟩ (fun hHeld => ?_)
          clear hK K
          try simp only [List.getElem_toArray, List.getElem_cons_zero, List.getElem_cons_succ, Act.put, List.setIfInBounds_toArray, List.set_cons_zero, List.set_cons_succ]
          refine wpAnyH_take (i := 10) (oi := _) (v := ?_) rfl (by kernel_rfl) (by kernel_rfl) (by kernel_rfl) (fun _ _ _ h => h) (Or.inl ⟨by kernel_rfl, ?_⟩) (by assumption) ?_
          rotate_left
          · intro w hSw; (try dsimp only at hSw); go_simp; first | done | with_reducible rfl
          try simp only [List.getElem_toArray, List.getElem_cons_zero, List.getElem_cons_succ, Act.put, List.setIfInBounds_toArray, List.set_cons_zero, List.set_cons_succ]
          refine wpAnyH_done (by kernel_rfl) ?_ _
          go_wp2_with fail
          go_meet
          exact ⟨_, A5, g5, cap5, _, rfl, rfl, B', G2, G3, ⟨GB.lt, GB.cells3.1, GB.cells3.2.1, GB.cells3.2.2⟩, GS5⟩
        · skip
          go_simp
          refine (HS.out _ g1 B.size R1).mono ?_
          rintro e w5 ⟨hb, v5, rfl, A5, g5, cap5, S5⟩
          obtain rfl := S5.1
          replace H2 := H2.below hb
          replace H3 := H3.below hb
          replace R1 := rowNext0 R1 hb
          replace B := nxt B hb
          clear hb l2 p2 q2 r2 l3 p3 q3 r3 s3
          obtain ⟨l2, p2, q2, r2⟩ := id H2
          obtain ⟨l3, p3, q3, r3, s3⟩ := id H3
          refine hK.out _ _ ⟨p2, q2, r2, p3, q3, r3, s3⟩ (fun hHeld => ?_)
          clear hK K
          try simp only [List.getElem_toArray, List.getElem_cons_zero, List.getElem_cons_succ, Act.put, List.setIfInBounds_toArray, List.set_cons_zero, List.set_cons_succ]
          refine wpAnyH_take (i := 5) (oi := _) (v := ?_) rfl (by kernel_rfl) (by kernel_rfl) (by kernel_rfl) (fun _ _ _ h => h) (Or.inl ⟨by kernel_rfl, ?_⟩) (by assumption) ?_
          rotate_left
          · intro w hSw; (try dsimp only at hSw); go_simp; first | done | with_reducible rfl
          try simp only [List.getElem_toArray, List.getElem_cons_zero, List.getElem_cons_succ, Act.put, List.setIfInBounds_toArray, List.set_cons_zero, List.set_cons_succ]
          refine wpAnyH_take (i := 6) (oi := _) (v := ?_) rfl (by kernel_rfl) (by kernel_rfl) (by kernel_rfl) (fun _ _ _ h => h) (Or.inl ⟨by kernel_rfl, ?_⟩) (by assumption) ?_
          rotate_left
          · intro w hSw; (try dsimp only at hSw); go_simp; first | done | with_reducible rfl
          try simp only [List.getElem_toArray, List.getElem_cons_zero, List.getElem_cons_succ, Act.put, List.setIfInBounds_toArray, List.set_cons_zero, List.set_cons_succ]
          refine wpAnyH_take (i := 7) (oi := _) (v := ?_) rfl (by kernel_rfl) (by kernel_rfl) (by kernel_rfl) (fun _ _ _ h => h) (Or.inl ⟨by kernel_rfl, ?_⟩) (by assumption) ?_
          rotate_left
          · intro w hSw; (try dsimp only at hSw); go_simp; first | done | with_reducible rfl
          try simp only [List.getElem_toArray, List.getElem_cons_zero, List.getElem_cons_succ, Act.put, List.setIfInBounds_toArray, List.set_cons_zero, List.set_cons_succ]
          refine wpAnyH_ready (rs := [8]) (by kernel_rfl) (by simp) ?_
          refine AllReadyH.cons (o := _) rfl (fun K hK => ?_) AllReadyH.nil
          go_simp
          have ng : 0 < nn → g5 ≠ w5.heap.size := fun h => by have := (S5.2.1 h).2.2; omega
          have HB := Bx.new w5 #[.int .i8 0, .int .i8 0, .slice none 0 0] 29
          replace H2 := H2.alloc (.cells #[.int .i8 0, .int .i8 0, .slice none 0 0] 29)
          replace H3 := H3.alloc (.cells #[.int .i8 0, .int .i8 0, .slice none 0 0] 29)
          replace R1 := R1.alloc (.cells #[.int .i8 0, .int .i8 0, .slice none 0 0] 29)
          replace S5 := S5.alloc (.cells #[.int .i8 0, .int .i8 0, .slice none 0 0] 29)
          have nb2 : w.heap.size < w5.heap.size := l2
          have nb3 : (w.heap.size + 1) < w5.heap.size := l3
          have nbw : w.heap.size ≤ w5.heap.size := B.size
          replace B := al B (.cells #[.int .i8 0, .int .i8 0, .slice none 0 0] 29)
          obtain ⟨wa4, hwa⟩ : ∃ wa4, w5.alloc (.cells #[.int .i8 0, .int .i8 0, .slice none 0 0] 29) = wa4 := ⟨_, rfl⟩
          rw [hwa] at HB B H2 H3 R1 S5 ⊢
          clear hwa l2 p2 q2 r2 l3 p3 q3 r3 s3
          obtain ⟨l2, p2, q2, r2⟩ := id H2
          obtain ⟨l3, p3, q3, r3, s3⟩ := id H3
          refine hK.out _ _ ⟨p2, q2, r2, p3, q3, r3, s3⟩ (fun hHeld => ?_)
          clear hK K
          try simp only [List.getElem_toArray, List.getElem_cons_zero, List.getElem_cons_succ, Act.put, List.setIfInBounds_toArray, List.set_cons_zero, List.set_cons_succ]
          obtain ⟨pB, qB, rB⟩ := HB.cells3
          have fB0 := HB.frozen 0
          have fB1 := HB.frozen 1
          have fB2 := HB.frozen 2
          have GB := HB.set3 (.int .i8 rx) (.int .i8 ry) (.slice A5 nn cap5)
          have B' := below_set3 (g := w5.heap.size) (v0 := .int .i8 rx) (v1 := .int .i8 ry) (v2 := .slice A5 nn cap5) B nbw
          have G2 : Sq (((wa4.setCell ⟨w5.heap.size, 0, none⟩ (.int .i8 rx)).setCell ⟨w5.heap.size, 1, none⟩ (.int .i8 ry)).setCell ⟨w5.heap.size, 2, none⟩ (.slice A5 nn cap5)) _ _ _ _ := H2.of_block (by simp) (blk3 (by omega))
          have G3 : Sl (((wa4.setCell ⟨w5.heap.size, 0, none⟩ (.int .i8 rx)).setCell ⟨w5.heap.size, 1, none⟩ (.int .i8 ry)).setCell ⟨w5.heap.size, 2, none⟩ (.slice A5 nn cap5)) _ _ _ _ _ := H3.of_block (by simp) (blk3 (by omega))
          have GS5 := S5.kept (w' := (((wa4.setCell ⟨w5.heap.size, 0, none⟩ (.int .i8 rx)).setCell ⟨w5.heap.size, 1, none⟩ (.int .i8 ry)).setCell ⟨w5.heap.size, 2, none⟩ (.slice A5 nn cap5))) (by simp) (fun h => blk3 (ng h))
          refine wpAnyH_ready (rs := [9]) (by kernel_rfl) (by simp) ?_
          refine AllReadyH.cons (o := _) rfl (fun K hK => ?_) AllReadyH.nil
          go_simp
          refine hK.out _ _ ⟨G2.2.1, G2.2.2.1, G2.2.2.2, G3.2.1, G3.2.2.1, G3.2.2.2.1, G3.2.2.2.2⟩ (fun hHeld => ?_)
          clear hK K
          try simp only [List.getElem_toArray, List.getElem_cons_zero, List.getElem_cons_succ, Act.put, List.setIfInBounds_toArray, List.set_cons_zero, List.set_cons_succ]
          refine wpAnyH_take (i := 10) (oi := _) (v := ?_) rfl (by kernel_rfl) (by kernel_rfl) (by kernel_rfl) (fun _ _ _ h => h) (Or.inl ⟨by kernel_rfl, ?_⟩) (by assumption) ?_
          rotate_left
          · intro w hSw; (try dsimp only at hSw); go_simp; first | done | with_reducible rfl
          try simp only [List.getElem_toArray, List.getElem_cons_zero, List.getElem_cons_succ, Act.put, List.setIfInBounds_toArray, List.set_cons_zero, List.set_cons_succ]
          refine wpAnyH_done (by kernel_rfl) ?_ _
          go_wp2_with fail
          go_meet
          exact ⟨_, A5, g5, cap5, _, rfl, rfl, B', G2, G3, ⟨GB.lt, GB.cells3.1, GB.cells3.2.1, GB.cells3.2.2⟩, GS5⟩
  clear B H2 H3 l2 p2 q2 r2 l3 p3 q3 r3 s3
  obtain ⟨b5, A5, g5, cap5, base5, rfl, rfl, B, H2, H3, H5, S5⟩ := hcut
  obtain ⟨V5, rfl⟩ : ∃ V : World, wc = V := ⟨_, rfl⟩
  obtain ⟨l2, p2, q2, r2⟩ := id H2
  obtain ⟨l3, p3, q3, r3, s3⟩ := id H3
  obtain ⟨l5, p5, q5, r5⟩ := id H5
  go_wp2_with fail
  refine (toSquare_any x y A n ca w.heap.size c _ (by omega) B.size (HR.out.below B)).mono ?_
  rintro e w6 ⟨g7, rfl, hg7, hb, R7⟩
  have n57 : 0 < nn → g5 < g7 := fun h => Nat.lt_of_lt_of_le (S5.2.1 h).2.2 hg7
  have n27 : w.heap.size < g7 := Nat.lt_of_lt_of_le H2.1 hg7
  have m57 : b5 < g7 := Nat.lt_of_lt_of_le H5.1 hg7
  have n37 : w.heap.size + 1 < g7 := Nat.lt_of_lt_of_le H3.1 hg7
  replace H2 := H2.below hb
  replace H3 := H3.below hb
  replace H5 := H5.below hb
  replace S5 := S5.below hb
  replace B := nxt B hb
  clear hb l2 p2 q2 r2 l3 p3 q3 r3 s3 l5 p5 q5 r5
  obtain ⟨l2, p2, q2, r2⟩ := id H2
  obtain ⟨l3, p3, q3, r3, s3⟩ := id H3
  obtain ⟨l5, p5, q5, r5⟩ := id H5
  go_wp2_with fail
  have n77 : g7 < w6.heap.size := R7.lt
  have H7 := Sq.new w6 x y (.slice (some ⟨g7, 0, none⟩) n n) 29
  replace H2 := H2.alloc (.cells #[.int .i8 x, .int .i8 y, .slice (some ⟨g7, 0, none⟩) n n] 29)
  replace H3 := H3.alloc (.cells #[.int .i8 x, .int .i8 y, .slice (some ⟨g7, 0, none⟩) n n] 29)
  replace H5 := H5.alloc (.cells #[.int .i8 x, .int .i8 y, .slice (some ⟨g7, 0, none⟩) n n] 29)
  replace R7 := R7.alloc (.cells #[.int .i8 x, .int .i8 y, .slice (some ⟨g7, 0, none⟩) n n] 29)
  replace S5 := S5.alloc (.cells #[.int .i8 x, .int .i8 y, .slice (some ⟨g7, 0, none⟩) n n] 29)
  replace B := al B (.cells #[.int .i8 x, .int .i8 y, .slice (some ⟨g7, 0, none⟩) n n] 29)
  obtain ⟨W7, hW7⟩ : ∃ W7 : World, W7 = w6.alloc (.cells #[.int .i8 x, .int .i8 y, .slice (some ⟨g7, 0, none⟩) n n] 29) := ⟨_, rfl⟩
  have hz7 : W7.heap.size = w6.heap.size + 1 := by rw [hW7]; simp
  rw [← hW7] at H7 H2 H3 H5 R7 S5 B ⊢
  have l7 := H7.1
  have p7 := H7.2.1
  have q7 := H7.2.2.1
  have r7 := H7.2.2.2
  clear hW7 hz7
  go_upto_region 7 with fail
  go_cut [9, 10] (fun t9 t10 wx => ∃ (b9 : Nat) (A9 : Option Addr) (g9 cap9 base9 : Nat), t9 = .pointer (some ⟨b9, 0, none⟩) ∧ t10 = .int .i64 z1 ∧ Below w.heap.size w wx ∧ Sq wx w.heap.size x y (.slice A n ca) ∧ Sl wx (w.heap.size + 1) a0 a1 a2 a3 ∧ Sq wx b5 rx ry (.slice A5 nn cap5) ∧ Sq wx w6.heap.size x y (.slice (some ⟨g7, 0, none⟩) n n) ∧ wx.rowIs g7 31 (4 * n) (fun j => .int .i8 (c j)) ∧ SliceOf .i8 4 wx base5 (.slice A5 nn cap5) nn ff A5 g5 cap5 ∧ Sq wx b9 rx ry (.slice A9 nn cap9) ∧ SliceOf .i8 4 wx base9 (.slice A9 nn cap9) nn ff A9 g9 cap9 ∧ (0 < nn → w6.heap.size < g9) ∧ w6.heap.size < b9 ∧ (0 < nn → b9 ≠ g9))
  case first =>
    replace B := B.drew
    replace H2 : Sq W7.drew _ _ _ _ := H2
    replace H3 : Sl W7.drew _ _ _ _ _ := H3
    replace H5 : Sq W7.drew _ _ _ _ := H5
    replace H7 : Sq W7.drew _ _ _ _ := H7
    replace R7 : W7.drew.rowIs g7 31 (4 * n) (fun j => .int .i8 (c j)) := R7
    replace S5 : SliceOf .i8 4 W7.drew _ _ nn _ A5 g5 cap5 := S5
    clear l2 p2 q2 r2 l3 p3 q3 r3 s3 l5 p5 q5 r5 l7 p7 q7 r7
    obtain ⟨l2, p2, q2, r2⟩ := id H2
    obtain ⟨l3, p3, q3, r3, s3⟩ := id H3
    obtain ⟨l5, p5, q5, r5⟩ := id H5
    obtain ⟨l7, p7, q7, r7⟩ := id H7
    refine wp_region_held_drew (S := (fun w' => w'.cell? ⟨w6.heap.size, 0, none⟩ = some (.int .i8 x) ∧ w'.cell? ⟨w6.heap.size, 1, none⟩ = some (.int .i8 y) ∧ w'.cell? ⟨w6.heap.size, 2, none⟩ = some (.slice (some ⟨g7, 0, none⟩) n n) ∧ w'.cell? ⟨w.heap.size + 1, 0, none⟩ = some (.int .i8 a0) ∧ w'.cell? ⟨w.heap.size + 1, 1, none⟩ = some (.int .i8 a1) ∧ w'.cell? ⟨w.heap.size + 1, 2, none⟩ = some (.int .i8 a2) ∧ w'.cell? ⟨w.heap.size + 1, 3, none⟩ = some (.int .i8 a3))) (by kernel_rfl) ⟨p7, q7, r7, p3, q3, r3, s3⟩ (fun hHeld => ?_)
    obtain ⟨w0, hw0⟩ : ∃ w0, W7.drew = w0 := ⟨_, rfl⟩
    rw [hw0] at hHeld B H2 H3 H5 H7 R7 S5 l2 p2 q2 r2 l3 p3 q3 r3 s3 l5 p5 q5 r5 l7 p7 q7 r7 ⊢
    clear hw0
    refine wpAnyH_take (i := 0) (oi := _) (v := ?_) rfl (by kernel_rfl) (by kernel_rfl) (by kernel_rfl) (fun _ _ _ h => h) (Or.inl ⟨by kernel_rfl, ?_⟩) (by assumption) ?_
    rotate_left
    · intro w hSw; (try dsimp only at hSw); go_simp; first | done | with_reducible rfl
    try simp only [List.getElem_toArray, List.getElem_cons_zero, List.getElem_cons_succ, Act.put, List.setIfInBounds_toArray, List.set_cons_zero, List.set_cons_succ]
    refine wpAnyH_take (i := 1) (oi := _) (v := ?_) rfl (by kernel_rfl) (by kernel_rfl) (by kernel_rfl) (fun _ _ _ h => h) (Or.inl ⟨by kernel_rfl, ?_⟩) (by assumption) ?_
    rotate_left
    · intro w hSw; (try dsimp only at hSw); go_simp; first | done | with_reducible rfl
    try simp only [List.getElem_toArray, List.getElem_cons_zero, List.getElem_cons_succ, Act.put, List.setIfInBounds_toArray, List.set_cons_zero, List.set_cons_succ]
    refine wpAnyH_ready (rs := [2, 7]) (by kernel_rfl) (by simp) ?_
    refine AllReadyH.cons (o := _) rfl (fun K hK => ?_) (AllReadyH.cons (o := _) rfl (fun K hK => ?_) AllReadyH.nil)
    rotate_left
    · skip
      go_simp
      have nS5 : 0 < nn → g5 < w0.heap.size := fun h => (S5.2.1 h).2.2
      have nRR7 : g7 < w0.heap.size := R7.lt
      have HB := Bx.new w0 #[.int .i8 0, .int .i8 0, .slice none 0 0] 29
      replace H2 := H2.alloc (.cells #[.int .i8 0, .int .i8 0, .slice none 0 0] 29)
      replace H3 := H3.alloc (.cells #[.int .i8 0, .int .i8 0, .slice none 0 0] 29)
      replace H5 := H5.alloc (.cells #[.int .i8 0, .int .i8 0, .slice none 0 0] 29)
      replace H7 := H7.alloc (.cells #[.int .i8 0, .int .i8 0, .slice none 0 0] 29)
      replace R7 := R7.alloc (.cells #[.int .i8 0, .int .i8 0, .slice none 0 0] 29)
      replace S5 := S5.alloc (.cells #[.int .i8 0, .int .i8 0, .slice none 0 0] 29)
      have nb2 : w.heap.size < w0.heap.size := l2
      have nb3 : (w.heap.size + 1) < w0.heap.size := l3
      have nb5 : b5 < w0.heap.size := l5
      have nb7 : w6.heap.size < w0.heap.size := l7
      have nbw : w.heap.size ≤ w0.heap.size := B.size
      replace B := al B (.cells #[.int .i8 0, .int .i8 0, .slice none 0 0] 29)
      obtain ⟨wa1, hwa⟩ : ∃ wa1, w0.alloc (.cells #[.int .i8 0, .int .i8 0, .slice none 0 0] 29) = wa1 := ⟨_, rfl⟩
      rw [hwa] at HB B H2 H3 H5 H7 R7 S5 ⊢
      clear hwa l2 p2 q2 r2 l3 p3 q3 r3 s3 l5 p5 q5 r5 l7 p7 q7 r7
      obtain ⟨l2, p2, q2, r2⟩ := id H2
      obtain ⟨l3, p3, q3, r3, s3⟩ := id H3
      obtain ⟨l5, p5, q5, r5⟩ := id H5
      obtain ⟨l7, p7, q7, r7⟩ := id H7
      refine hK.out _ _ ⟨p7, q7, r7, p3, q3, r3, s3⟩ (fun hHeld => ?_)
      clear hK K
      try simp only [List.getElem_toArray, List.getElem_cons_zero, List.getElem_cons_succ, Act.put, List.setIfInBounds_toArray, List.set_cons_zero, List.set_cons_succ]
      refine wpAnyH_ready (rs := [2]) (by kernel_rfl) (by simp) ?_
      refine AllReadyH.cons (o := _) rfl (fun K hK => ?_) AllReadyH.nil
      go_simp
      refine (toSlab_any a0 a1 a2 a3 _).mono ?_
      rintro e w8 ⟨rfl, hb⟩
      replace H2 := H2.below hb
      replace H3 := H3.below hb
      replace H5 := H5.below hb
      replace H7 := H7.below hb
      replace R7 := rowNext0 R7 hb
      replace S5 := S5.below hb
      replace HB := HB.below hb
      replace B := nxt B hb
      clear hb l2 p2 q2 r2 l3 p3 q3 r3 s3 l5 p5 q5 r5 l7 p7 q7 r7
      obtain ⟨l2, p2, q2, r2⟩ := id H2
      obtain ⟨l3, p3, q3, r3, s3⟩ := id H3
      obtain ⟨l5, p5, q5, r5⟩ := id H5
      obtain ⟨l7, p7, q7, r7⟩ := id H7
      refine hK.out _ _ ⟨p7, q7, r7, p3, q3, r3, s3⟩ (fun hHeld => ?_)
      clear hK K
      try simp only [List.getElem_toArray, List.getElem_cons_zero, List.getElem_cons_succ, Act.put, List.setIfInBounds_toArray, List.set_cons_zero, List.set_cons_succ]
      refine wpAnyH_ready (rs := [3]) (by kernel_rfl) (by simp) ?_
      refine AllReadyH.cons (o := _) rfl (fun K hK => ?_) AllReadyH.nil
      go_simp
      refine (HI.out _ g7 B.size R7).mono ?_
      rintro e w9 ⟨hb, v9, rfl, A9, g9, cap9, S9⟩
      obtain rfl := S9.1
      have n79 : 0 < nn → w6.heap.size < g9 := fun h => by have := (S9.2.1 h).2.1; omega
      have ng : 0 < nn → g9 ≠ w0.heap.size := fun h => by have := (S9.2.1 h).2.1; have := HB.lt; omega
      replace H2 := H2.below hb
      replace H3 := H3.below hb
      replace H5 := H5.below hb
      replace H7 := H7.below hb
      replace R7 := rowNext0 R7 hb
      replace S5 := S5.below hb
      replace HB := HB.below hb
      replace B := nxt B hb
      clear hb l2 p2 q2 r2 l3 p3 q3 r3 s3 l5 p5 q5 r5 l7 p7 q7 r7
      obtain ⟨l2, p2, q2, r2⟩ := id H2
      obtain ⟨l3, p3, q3, r3, s3⟩ := id H3
      obtain ⟨l5, p5, q5, r5⟩ := id H5
      obtain ⟨l7, p7, q7, r7⟩ := id H7
      refine hK.out _ _ ⟨p7, q7, r7, p3, q3, r3, s3⟩ (fun hHeld => ?_)
      clear hK K
      try simp only [List.getElem_toArray, List.getElem_cons_zero, List.getElem_cons_succ, Act.put, List.setIfInBounds_toArray, List.set_cons_zero, List.set_cons_succ]
      refine wpAnyH_take (i := 4) (oi := _) (v := ?_) rfl (by kernel_rfl) (by kernel_rfl) (by kernel_rfl) (fun _ _ _ h => h) (Or.inl ⟨by kernel_rfl, ?_⟩) (by assumption) ?_
      rotate_left
      · intro w hSw; (try dsimp only at hSw); go_simp; first | done | with_reducible rfl
      try simp only [List.getElem_toArray, List.getElem_cons_zero, List.getElem_cons_succ, Act.put, List.setIfInBounds_toArray, List.set_cons_zero, List.set_cons_succ]
      refine wpAnyH_take (i := 5) (oi := _) (v := ?_) rfl (by kernel_rfl) (by kernel_rfl) (by kernel_rfl) (fun _ _ _ h => h) (Or.inl ⟨by kernel_rfl, ?_⟩) (by assumption) ?_
      rotate_left
      · intro w hSw; (try dsimp only at hSw); go_simp; first | done | with_reducible rfl
      try simp only [List.getElem_toArray, List.getElem_cons_zero, List.getElem_cons_succ, Act.put, List.setIfInBounds_toArray, List.set_cons_zero, List.set_cons_succ]
      refine wpAnyH_take (i := 6) (oi := _) (v := ?_) rfl (by kernel_rfl) (by kernel_rfl) (by kernel_rfl) (fun _ _ _ h => h) (Or.inl ⟨by kernel_rfl, ?_⟩) (by assumption) ?_
      rotate_left
      · intro w hSw; (try dsimp only at hSw); go_simp; first | done | with_reducible rfl
      try simp only [List.getElem_toArray, List.getElem_cons_zero, List.getElem_cons_succ, Act.put, List.setIfInBounds_toArray, List.set_cons_zero, List.set_cons_succ]
      obtain ⟨pB, qB, rB⟩ := HB.cells3
      have fB0 := HB.frozen 0
      have fB1 := HB.frozen 1
      have fB2 := HB.frozen 2
      have GB := HB.set3 (.int .i8 rx) (.int .i8 ry) (.slice A9 nn cap9)
      have B' := below_set3 (g := w0.heap.size) (v0 := .int .i8 rx) (v1 := .int .i8 ry) (v2 := .slice A9 nn cap9) B nbw
      have G2 : Sq (((w9.setCell ⟨w0.heap.size, 0, none⟩ (.int .i8 rx)).setCell ⟨w0.heap.size, 1, none⟩ (.int .i8 ry)).setCell ⟨w0.heap.size, 2, none⟩ (.slice A9 nn cap9)) _ _ _ _ := H2.of_block (by simp) (blk3 (by omega))
      have G3 : Sl (((w9.setCell ⟨w0.heap.size, 0, none⟩ (.int .i8 rx)).setCell ⟨w0.heap.size, 1, none⟩ (.int .i8 ry)).setCell ⟨w0.heap.size, 2, none⟩ (.slice A9 nn cap9)) _ _ _ _ _ := H3.of_block (by simp) (blk3 (by omega))
      have G5 : Sq (((w9.setCell ⟨w0.heap.size, 0, none⟩ (.int .i8 rx)).setCell ⟨w0.heap.size, 1, none⟩ (.int .i8 ry)).setCell ⟨w0.heap.size, 2, none⟩ (.slice A9 nn cap9)) _ _ _ _ := H5.of_block (by simp) (blk3 (by omega))
      have G7 : Sq (((w9.setCell ⟨w0.heap.size, 0, none⟩ (.int .i8 rx)).setCell ⟨w0.heap.size, 1, none⟩ (.int .i8 ry)).setCell ⟨w0.heap.size, 2, none⟩ (.slice A9 nn cap9)) _ _ _ _ := H7.of_block (by simp) (blk3 (by omega))
      have GR7 := R7.of_block (w' := (((w9.setCell ⟨w0.heap.size, 0, none⟩ (.int .i8 rx)).setCell ⟨w0.heap.size, 1, none⟩ (.int .i8 ry)).setCell ⟨w0.heap.size, 2, none⟩ (.slice A9 nn cap9))) (blk3 (by omega))
      have GS5 := S5.kept (w' := (((w9.setCell ⟨w0.heap.size, 0, none⟩ (.int .i8 rx)).setCell ⟨w0.heap.size, 1, none⟩ (.int .i8 ry)).setCell ⟨w0.heap.size, 2, none⟩ (.slice A9 nn cap9))) (by simp) (fun h => blk3 (by have := (S5.2.1 h).2.2; have := nS5 h; omega))
      have GS9 := S9.kept (w' := (((w9.setCell ⟨w0.heap.size, 0, none⟩ (.int .i8 rx)).setCell ⟨w0.heap.size, 1, none⟩ (.int .i8 ry)).setCell ⟨w0.heap.size, 2, none⟩ (.slice A9 nn cap9))) (by simp) (fun h => blk3 (ng h))
      refine wpAnyH_ready (rs := [8]) (by kernel_rfl) (by simp) ?_
      refine AllReadyH.cons (o := _) rfl (fun K hK => ?_) AllReadyH.nil
      go_simp
      refine hK.out _ _ ⟨G7.2.1, G7.2.2.1, G7.2.2.2, G3.2.1, G3.2.2.1, G3.2.2.2.1, G3.2.2.2.2⟩ (fun hHeld => ?_)
      clear hK K
      try simp only [List.getElem_toArray, List.getElem_cons_zero, List.getElem_cons_succ, Act.put, List.setIfInBounds_toArray, List.set_cons_zero, List.set_cons_succ]
      refine wpAnyH_take (i := 9) (oi := _) (v := ?_) rfl (by kernel_rfl) (by kernel_rfl) (by kernel_rfl) (fun _ _ _ h => h) (Or.inl ⟨by kernel_rfl, ?_⟩) (by assumption) ?_
      rotate_left
      · intro w hSw; (try dsimp only at hSw); go_simp; first | done | with_reducible rfl
      try simp only [List.getElem_toArray, List.getElem_cons_zero, List.getElem_cons_succ, Act.put, List.setIfInBounds_toArray, List.set_cons_zero, List.set_cons_succ]
      refine wpAnyH_done (by kernel_rfl) ?_ _
      go_wp2_with fail
      go_meet
      exact ⟨_, A9, g9, cap9, _, rfl, rfl, B', G2, G3, G5, G7, GR7, GS5, ⟨GB.lt, GB.cells3.1, GB.cells3.2.1, GB.cells3.2.2⟩, GS9, n79, nb7, fun h => (ng h).symm⟩
    · skip
      go_simp
      refine (toSlab_any a0 a1 a2 a3 _).mono ?_
      rintro e w8 ⟨rfl, hb⟩
      replace H2 := H2.below hb
      replace H3 := H3.below hb
      replace H5 := H5.below hb
      replace H7 := H7.below hb
      replace R7 := rowNext0 R7 hb
      replace S5 := S5.below hb
      replace B := nxt B hb
      clear hb l2 p2 q2 r2 l3 p3 q3 r3 s3 l5 p5 q5 r5 l7 p7 q7 r7
      obtain ⟨l2, p2, q2, r2⟩ := id H2
      obtain ⟨l3, p3, q3, r3, s3⟩ := id H3
      obtain ⟨l5, p5, q5, r5⟩ := id H5
      obtain ⟨l7, p7, q7, r7⟩ := id H7
      refine hK.out _ _ ⟨p7, q7, r7, p3, q3, r3, s3⟩ (fun hHeld => ?_)
      clear hK K
      try simp only [List.getElem_toArray, List.getElem_cons_zero, List.getElem_cons_succ, Act.put, List.setIfInBounds_toArray, List.set_cons_zero, List.set_cons_succ]
      refine wpAnyH_ready (rs := [3, 7]) (by kernel_rfl) (by simp) ?_
      refine AllReadyH.cons (o := _) rfl (fun K hK => ?_) (AllReadyH.cons (o := _) rfl (fun K hK => ?_) AllReadyH.nil)
      rotate_left
      · skip
        go_simp
        have nS5 : 0 < nn → g5 < w8.heap.size := fun h => (S5.2.1 h).2.2
        have nRR7 : g7 < w8.heap.size := R7.lt
        have HB := Bx.new w8 #[.int .i8 0, .int .i8 0, .slice none 0 0] 29
        replace H2 := H2.alloc (.cells #[.int .i8 0, .int .i8 0, .slice none 0 0] 29)
        replace H3 := H3.alloc (.cells #[.int .i8 0, .int .i8 0, .slice none 0 0] 29)
        replace H5 := H5.alloc (.cells #[.int .i8 0, .int .i8 0, .slice none 0 0] 29)
        replace H7 := H7.alloc (.cells #[.int .i8 0, .int .i8 0, .slice none 0 0] 29)
        replace R7 := R7.alloc (.cells #[.int .i8 0, .int .i8 0, .slice none 0 0] 29)
        replace S5 := S5.alloc (.cells #[.int .i8 0, .int .i8 0, .slice none 0 0] 29)
        have nb2 : w.heap.size < w8.heap.size := l2
        have nb3 : (w.heap.size + 1) < w8.heap.size := l3
        have nb5 : b5 < w8.heap.size := l5
        have nb7 : w6.heap.size < w8.heap.size := l7
        have nbw : w.heap.size ≤ w8.heap.size := B.size
        replace B := al B (.cells #[.int .i8 0, .int .i8 0, .slice none 0 0] 29)
        obtain ⟨wa2, hwa⟩ : ∃ wa2, w8.alloc (.cells #[.int .i8 0, .int .i8 0, .slice none 0 0] 29) = wa2 := ⟨_, rfl⟩
        rw [hwa] at HB B H2 H3 H5 H7 R7 S5 ⊢
        clear hwa l2 p2 q2 r2 l3 p3 q3 r3 s3 l5 p5 q5 r5 l7 p7 q7 r7
        obtain ⟨l2, p2, q2, r2⟩ := id H2
        obtain ⟨l3, p3, q3, r3, s3⟩ := id H3
        obtain ⟨l5, p5, q5, r5⟩ := id H5
        obtain ⟨l7, p7, q7, r7⟩ := id H7
        refine hK.out _ _ ⟨p7, q7, r7, p3, q3, r3, s3⟩ (fun hHeld => ?_)
        clear hK K
        try simp only [List.getElem_toArray, List.getElem_cons_zero, List.getElem_cons_succ, Act.put, List.setIfInBounds_toArray, List.set_cons_zero, List.set_cons_succ]
        refine wpAnyH_ready (rs := [3]) (by kernel_rfl) (by simp) ?_
        refine AllReadyH.cons (o := _) rfl (fun K hK => ?_) AllReadyH.nil
        go_simp
        refine (HI.out _ g7 B.size R7).mono ?_
        rintro e w9 ⟨hb, v9, rfl, A9, g9, cap9, S9⟩
        obtain rfl := S9.1
        have n79 : 0 < nn → w6.heap.size < g9 := fun h => by have := (S9.2.1 h).2.1; omega
        have ng : 0 < nn → g9 ≠ w8.heap.size := fun h => by have := (S9.2.1 h).2.1; have := HB.lt; omega
        replace H2 := H2.below hb
        replace H3 := H3.below hb
        replace H5 := H5.below hb
        replace H7 := H7.below hb
        replace R7 := rowNext0 R7 hb
        replace S5 := S5.below hb
        replace HB := HB.below hb
        replace B := nxt B hb
        clear hb l2 p2 q2 r2 l3 p3 q3 r3 s3 l5 p5 q5 r5 l7 p7 q7 r7
        obtain ⟨l2, p2, q2, r2⟩ := id H2
        obtain ⟨l3, p3, q3, r3, s3⟩ := id H3
        obtain ⟨l5, p5, q5, r5⟩ := id H5
        obtain ⟨l7, p7, q7, r7⟩ := id H7
        refine hK.out _ _ ⟨p7, q7, r7, p3, q3, r3, s3⟩ (fun hHeld => ?_)
        clear hK K
        try simp only [List.getElem_toArray, List.getElem_cons_zero, List.getElem_cons_succ, Act.put, List.setIfInBounds_toArray, List.set_cons_zero, List.set_cons_succ]
        refine wpAnyH_take (i := 4) (oi := _) (v := ?_) rfl (by kernel_rfl) (by kernel_rfl) (by kernel_rfl) (fun _ _ _ h => h) (Or.inl ⟨by kernel_rfl, ?_⟩) (by assumption) ?_
        rotate_left
        · intro w hSw; (try dsimp only at hSw); go_simp; first | done | with_reducible rfl
        try simp only [List.getElem_toArray, List.getElem_cons_zero, List.getElem_cons_succ, Act.put, List.setIfInBounds_toArray, List.set_cons_zero, List.set_cons_succ]
        refine wpAnyH_take (i := 5) (oi := _) (v := ?_) rfl (by kernel_rfl) (by kernel_rfl) (by kernel_rfl) (fun _ _ _ h => h) (Or.inl ⟨by kernel_rfl, ?_⟩) (by assumption) ?_
        rotate_left
        · intro w hSw; (try dsimp only at hSw); go_simp; first | done | with_reducible rfl
        try simp only [List.getElem_toArray, List.getElem_cons_zero, List.getElem_cons_succ, Act.put, List.setIfInBounds_toArray, List.set_cons_zero, List.set_cons_succ]
        refine wpAnyH_take (i := 6) (oi := _) (v := ?_) rfl (by kernel_rfl) (by kernel_rfl) (by kernel_rfl) (fun _ _ _ h => h) (Or.inl ⟨by kernel_rfl, ?_⟩) (by assumption) ?_
        rotate_left
        · intro w hSw; (try dsimp only at hSw); go_simp; first | done | with_reducible rfl
        try simp only [List.getElem_toArray, List.getElem_cons_zero, List.getElem_cons_succ, Act.put, List.setIfInBounds_toArray, List.set_cons_zero, List.set_cons_succ]
        obtain ⟨pB, qB, rB⟩ := HB.cells3
        have fB0 := HB.frozen 0
        have fB1 := HB.frozen 1
        have fB2 := HB.frozen 2
        have GB := HB.set3 (.int .i8 rx) (.int .i8 ry) (.slice A9 nn cap9)
        have B' := below_set3 (g := w8.heap.size) (v0 := .int .i8 rx) (v1 := .int .i8 ry) (v2 := .slice A9 nn cap9) B nbw
        have G2 : Sq (((w9.setCell ⟨w8.heap.size, 0, none⟩ (.int .i8 rx)).setCell ⟨w8.heap.size, 1, none⟩ (.int .i8 ry)).setCell ⟨w8.heap.size, 2, none⟩ (.slice A9 nn cap9)) _ _ _ _ := H2.of_block (by simp) (blk3 (by omega))
        have G3 : Sl (((w9.setCell ⟨w8.heap.size, 0, none⟩ (.int .i8 rx)).setCell ⟨w8.heap.size, 1, none⟩ (.int .i8 ry)).setCell ⟨w8.heap.size, 2, none⟩ (.slice A9 nn cap9)) _ _ _ _ _ := H3.of_block (by simp) (blk3 (by omega))
        have G5 : Sq (((w9.setCell ⟨w8.heap.size, 0, none⟩ (.int .i8 rx)).setCell ⟨w8.heap.size, 1, none⟩ (.int .i8 ry)).setCell ⟨w8.heap.size, 2, none⟩ (.slice A9 nn cap9)) _ _ _ _ := H5.of_block (by simp) (blk3 (by omega))
        have G7 : Sq (((w9.setCell ⟨w8.heap.size, 0, none⟩ (.int .i8 rx)).setCell ⟨w8.heap.size, 1, none⟩ (.int .i8 ry)).setCell ⟨w8.heap.size, 2, none⟩ (.slice A9 nn cap9)) _ _ _ _ := H7.of_block (by simp) (blk3 (by omega))
        have GR7 := R7.of_block (w' := (((w9.setCell ⟨w8.heap.size, 0, none⟩ (.int .i8 rx)).setCell ⟨w8.heap.size, 1, none⟩ (.int .i8 ry)).setCell ⟨w8.heap.size, 2, none⟩ (.slice A9 nn cap9))) (blk3 (by omega))
        have GS5 := S5.kept (w' := (((w9.setCell ⟨w8.heap.size, 0, none⟩ (.int .i8 rx)).setCell ⟨w8.heap.size, 1, none⟩ (.int .i8 ry)).setCell ⟨w8.heap.size, 2, none⟩ (.slice A9 nn cap9))) (by simp) (fun h => blk3 (by have := (S5.2.1 h).2.2; have := nS5 h; omega))
        have GS9 := S9.kept (w' := (((w9.setCell ⟨w8.heap.size, 0, none⟩ (.int .i8 rx)).setCell ⟨w8.heap.size, 1, none⟩ (.int .i8 ry)).setCell ⟨w8.heap.size, 2, none⟩ (.slice A9 nn cap9))) (by simp) (fun h => blk3 (ng h))
        refine wpAnyH_ready (rs := [8]) (by kernel_rfl) (by simp) ?_
        refine AllReadyH.cons (o := _) rfl (fun K hK => ?_) AllReadyH.nil
        go_simp
        refine hK.out _ _ ⟨G7.2.1, G7.2.2.1, G7.2.2.2, G3.2.1, G3.2.2.1, G3.2.2.2.1, G3.2.2.2.2⟩ (fun hHeld => ?_)
        clear hK K
        try simp only [List.getElem_toArray, List.getElem_cons_zero, List.getElem_cons_succ, Act.put, List.setIfInBounds_toArray, List.set_cons_zero, List.set_cons_succ]
        refine wpAnyH_take (i := 9) (oi := _) (v := ?_) rfl (by kernel_rfl) (by kernel_rfl) (by kernel_rfl) (fun _ _ _ h => h) (Or.inl ⟨by kernel_rfl, ?_⟩) (by assumption) ?_
        rotate_left
        · intro w hSw; (try dsimp only at hSw); go_simp; first | done | with_reducible rfl
        try simp only [List.getElem_toArray, List.getElem_cons_zero, List.getElem_cons_succ, Act.put, List.setIfInBounds_toArray, List.set_cons_zero, List.set_cons_succ]
        refine wpAnyH_done (by kernel_rfl) ?_ _
        go_wp2_with fail
        go_meet
        exact ⟨_, A9, g9, cap9, _, rfl, rfl, B', G2, G3, G5, G7, GR7, GS5, ⟨GB.lt, GB.cells3.1, GB.cells3.2.1, GB.cells3.2.2⟩, GS9, n79, nb7, fun h => (ng h).symm⟩
      · skip
        go_simp
        refine (HI.out _ g7 B.size R7).mono ?_
        rintro e w9 ⟨hb, v9, rfl, A9, g9, cap9, S9⟩
        obtain rfl := S9.1
        have n79 : 0 < nn → w6.heap.size < g9 := fun h => by have := (S9.2.1 h).2.1; omega
        replace H2 := H2.below hb
        replace H3 := H3.below hb
        replace H5 := H5.below hb
        replace H7 := H7.below hb
        replace R7 := rowNext0 R7 hb
        replace S5 := S5.below hb
        replace B := nxt B hb
        clear hb l2 p2 q2 r2 l3 p3 q3 r3 s3 l5 p5 q5 r5 l7 p7 q7 r7
        obtain ⟨l2, p2, q2, r2⟩ := id H2
        obtain ⟨l3, p3, q3, r3, s3⟩ := id H3
        obtain ⟨l5, p5, q5, r5⟩ := id H5
        obtain ⟨l7, p7, q7, r7⟩ := id H7
        refine hK.out _ _ ⟨p7, q7, r7, p3, q3, r3, s3⟩ (fun hHeld => ?_)
        clear hK K
        try simp only [List.getElem_toArray, List.getElem_cons_zero, List.getElem_cons_succ, Act.put, List.setIfInBounds_toArray, List.set_cons_zero, List.set_cons_succ]
        refine wpAnyH_take (i := 4) (oi := _) (v := ?_) rfl (by kernel_rfl) (by kernel_rfl) (by kernel_rfl) (fun _ _ _ h => h) (Or.inl ⟨by kernel_rfl, ?_⟩) (by assumption) ?_
        rotate_left
        · intro w hSw; (try dsimp only at hSw); go_simp; first | done | with_reducible rfl
        try simp only [List.getElem_toArray, List.getElem_cons_zero, List.getElem_cons_succ, Act.put, List.setIfInBounds_toArray, List.set_cons_zero, List.set_cons_succ]
        refine wpAnyH_take (i := 5) (oi := _) (v := ?_) rfl (by kernel_rfl) (by kernel_rfl) (by kernel_rfl) (fun _ _ _ h => h) (Or.inl ⟨by kernel_rfl, ?_⟩) (by assumption) ?_
        rotate_left
        · intro w hSw; (try dsimp only at hSw); go_simp; first | done | with_reducible rfl
        try simp only [List.getElem_toArray, List.getElem_cons_zero, List.getElem_cons_succ, Act.put, List.setIfInBounds_toArray, List.set_cons_zero, List.set_cons_succ]
        refine wpAnyH_take (i := 6) (oi := _) (v := ?_) rfl (by kernel_rfl) (by kernel_rfl) (by kernel_rfl) (fun _ _ _ h => h) (Or.inl ⟨by kernel_rfl, ?_⟩) (by assumption) ?_
        rotate_left
        · intro w hSw; (try dsimp only at hSw); go_simp; first | done | with_reducible rfl
        try simp only [List.getElem_toArray, List.getElem_cons_zero, List.getElem_cons_succ, Act.put, List.setIfInBounds_toArray, List.set_cons_zero, List.set_cons_succ]
        refine wpAnyH_ready (rs := [7]) (by kernel_rfl) (by simp) ?_
        refine AllReadyH.cons (o := _) rfl (fun K hK => ?_) AllReadyH.nil
        go_simp
        have ng : 0 < nn → g9 ≠ w9.heap.size := fun h => by have := (S9.2.1 h).2.2; omega
        have nS5 : 0 < nn → g5 < w9.heap.size := fun h => (S5.2.1 h).2.2
        have nRR7 : g7 < w9.heap.size := R7.lt
        have HB := Bx.new w9 #[.int .i8 0, .int .i8 0, .slice none 0 0] 29
        replace H2 := H2.alloc (.cells #[.int .i8 0, .int .i8 0, .slice none 0 0] 29)
        replace H3 := H3.alloc (.cells #[.int .i8 0, .int .i8 0, .slice none 0 0] 29)
        replace H5 := H5.alloc (.cells #[.int .i8 0, .int .i8 0, .slice none 0 0] 29)
        replace H7 := H7.alloc (.cells #[.int .i8 0, .int .i8 0, .slice none 0 0] 29)
        replace R7 := R7.alloc (.cells #[.int .i8 0, .int .i8 0, .slice none 0 0] 29)
        replace S5 := S5.alloc (.cells #[.int .i8 0, .int .i8 0, .slice none 0 0] 29)
        replace S9 := S9.alloc (.cells #[.int .i8 0, .int .i8 0, .slice none 0 0] 29)
        have nb2 : w.heap.size < w9.heap.size := l2
        have nb3 : (w.heap.size + 1) < w9.heap.size := l3
        have nb5 : b5 < w9.heap.size := l5
        have nb7 : w6.heap.size < w9.heap.size := l7
        have nbw : w.heap.size ≤ w9.heap.size := B.size
        replace B := al B (.cells #[.int .i8 0, .int .i8 0, .slice none 0 0] 29)
        obtain ⟨wa3, hwa⟩ : ∃ wa3, w9.alloc (.cells #[.int .i8 0, .int .i8 0, .slice none 0 0] 29) = wa3 := ⟨_, rfl⟩
        rw [hwa] at HB B H2 H3 H5 H7 R7 S5 S9 ⊢
        clear hwa l2 p2 q2 r2 l3 p3 q3 r3 s3 l5 p5 q5 r5 l7 p7 q7 r7
        obtain ⟨l2, p2, q2, r2⟩ := id H2
        obtain ⟨l3, p3, q3, r3, s3⟩ := id H3
        obtain ⟨l5, p5, q5, r5⟩ := id H5
        obtain ⟨l7, p7, q7, r7⟩ := id H7
        refine hK.out _ _ ⟨p7, q7, r7, p3, q3, r3, s3⟩ (fun hHeld => ?_)
        clear hK K
        try simp only [List.getElem_toArray, List.getElem_cons_zero, List.getElem_cons_succ, Act.put, List.setIfInBounds_toArray, List.set_cons_zero, List.set_cons_succ]
        obtain ⟨pB, qB, rB⟩ := HB.cells3
        have fB0 := HB.frozen 0
        have fB1 := HB.frozen 1
        have fB2 := HB.frozen 2
        have GB := HB.set3 (.int .i8 rx) (.int .i8 ry) (.slice A9 nn cap9)
        have B' := below_set3 (g := w9.heap.size) (v0 := .int .i8 rx) (v1 := .int .i8 ry) (v2 := .slice A9 nn cap9) B nbw
        have G2 : Sq (((wa3.setCell ⟨w9.heap.size, 0, none⟩ (.int .i8 rx)).setCell ⟨w9.heap.size, 1, none⟩ (.int .i8 ry)).setCell ⟨w9.heap.size, 2, none⟩ (.slice A9 nn cap9)) _ _ _ _ := H2.of_block (by simp) (blk3 (by omega))
        have G3 : Sl (((wa3.setCell ⟨w9.heap.size, 0, none⟩ (.int .i8 rx)).setCell ⟨w9.heap.size, 1, none⟩ (.int .i8 ry)).setCell ⟨w9.heap.size, 2, none⟩ (.slice A9 nn cap9)) _ _ _ _ _ := H3.of_block (by simp) (blk3 (by omega))
        have G5 : Sq (((wa3.setCell ⟨w9.heap.size, 0, none⟩ (.int .i8 rx)).setCell ⟨w9.heap.size, 1, none⟩ (.int .i8 ry)).setCell ⟨w9.heap.size, 2, none⟩ (.slice A9 nn cap9)) _ _ _ _ := H5.of_block (by simp) (blk3 (by omega))
        have G7 : Sq (((wa3.setCell ⟨w9.heap.size, 0, none⟩ (.int .i8 rx)).setCell ⟨w9.heap.size, 1, none⟩ (.int .i8 ry)).setCell ⟨w9.heap.size, 2, none⟩ (.slice A9 nn cap9)) _ _ _ _ := H7.of_block (by simp) (blk3 (by omega))
        have GR7 := R7.of_block (w' := (((wa3.setCell ⟨w9.heap.size, 0, none⟩ (.int .i8 rx)).setCell ⟨w9.heap.size, 1, none⟩ (.int .i8 ry)).setCell ⟨w9.heap.size, 2, none⟩ (.slice A9 nn cap9))) (blk3 (by omega))
        have GS5 := S5.kept (w' := (((wa3.setCell ⟨w9.heap.size, 0, none⟩ (.int .i8 rx)).setCell ⟨w9.heap.size, 1, none⟩ (.int .i8 ry)).setCell ⟨w9.heap.size, 2, none⟩ (.slice A9 nn cap9))) (by simp) (fun h => blk3 (by have := (S5.2.1 h).2.2; have := nS5 h; omega))
        have GS9 := S9.kept (w' := (((wa3.setCell ⟨w9.heap.size, 0, none⟩ (.int .i8 rx)).setCell ⟨w9.heap.size, 1, none⟩ (.int .i8 ry)).setCell ⟨w9.heap.size, 2, none⟩ (.slice A9 nn cap9))) (by simp) (fun h => blk3 (ng h))
        refine wpAnyH_ready (rs := [8]) (by kernel_rfl) (by simp) ?_
        refine AllReadyH.cons (o := _) rfl (fun K hK => ?_) AllReadyH.nil
        go_simp
        refine hK.out _ _ ⟨G7.2.1, G7.2.2.1, G7.2.2.2, G3.2.1, G3.2.2.1, G3.2.2.2.1, G3.2.2.2.2⟩ (fun hHeld => ?_)
        clear hK K
        try simp only [List.getElem_toArray, List.getElem_cons_zero, List.getElem_cons_succ, Act.put, List.setIfInBounds_toArray, List.set_cons_zero, List.set_cons_succ]
        refine wpAnyH_take (i := 9) (oi := _) (v := ?_) rfl (by kernel_rfl) (by kernel_rfl) (by kernel_rfl) (fun _ _ _ h => h) (Or.inl ⟨by kernel_rfl, ?_⟩) (by assumption) ?_
        rotate_left
        · intro w hSw; (try dsimp only at hSw); go_simp; first | done | with_reducible rfl
        try simp only [List.getElem_toArray, List.getElem_cons_zero, List.getElem_cons_succ, Act.put, List.setIfInBounds_toArray, List.set_cons_zero, List.set_cons_succ]
        refine wpAnyH_done (by kernel_rfl) ?_ _
        go_wp2_with fail
        go_meet
        exact ⟨_, A9, g9, cap9, _, rfl, rfl, B', G2, G3, G5, G7, GR7, GS5, ⟨GB.lt, GB.cells3.1, GB.cells3.2.1, GB.cells3.2.2⟩, GS9, n79, nb7, fun h => (ng h).symm⟩
  clear B H2 H3 H5 H7 R7 S5 l2 p2 q2 r2 l3 p3 q3 r3 s3 l5 p5 q5 r5 l7 p7 q7 r7
  obtain ⟨b9, A9, g9, cap9, base9, rfl, rfl, B, H2, H3, H5, H7, R7, S5, H9, S9, n79, nb7, u9⟩ := hcut
  obtain ⟨V9, rfl⟩ : ∃ V : World, wc = V := ⟨_, rfl⟩
  obtain ⟨l2, p2, q2, r2⟩ := id H2
  obtain ⟨l3, p3, q3, r3, s3⟩ := id H3
  obtain ⟨l5, p5, q5, r5⟩ := id H5
  obtain ⟨l7, p7, q7, r7⟩ := id H7
  obtain ⟨l9, p9, q9, r9⟩ := id H9
  go_wp2_with fail
  refine (eqSq rx ry (by omega) S9 S5).mono ?_
  rintro e w10 ⟨rfl, hb⟩
  replace H2 := H2.below hb
  replace H3 := H3.below hb
  replace H5 := H5.below hb
  replace H7 := H7.below hb
  replace H9 := H9.below hb
  replace R7 := rowNext0 R7 hb
  replace S5 := S5.below hb
  replace S9 := S9.below hb
  replace B := nxt B hb
  clear hb l2 p2 q2 r2 l3 p3 q3 r3 s3 l5 p5 q5 r5 l7 p7 q7 r7 l9 p9 q9 r9
  obtain ⟨l2, p2, q2, r2⟩ := id H2
  obtain ⟨l3, p3, q3, r3, s3⟩ := id H3
  obtain ⟨l5, p5, q5, r5⟩ := id H5
  obtain ⟨l7, p7, q7, r7⟩ := id H7
  obtain ⟨l9, p9, q9, r9⟩ := id H9
  go_wp2_with fail
  replace B := B.drew
  replace H2 : Sq w10.drew _ _ _ _ := H2
  replace H3 : Sl w10.drew _ _ _ _ _ := H3
  replace H5 : Sq w10.drew _ _ _ _ := H5
  replace H7 : Sq w10.drew _ _ _ _ := H7
  replace H9 : Sq w10.drew _ _ _ _ := H9
  replace R7 : w10.drew.rowIs g7 31 (4 * n) (fun j => .int .i8 (c j)) := R7
  replace S5 : SliceOf .i8 4 w10.drew _ _ nn ff A5 g5 cap5 := S5
  replace S9 : SliceOf .i8 4 w10.drew _ _ nn ff A9 g9 cap9 := S9
  clear l2 p2 q2 r2 l3 p3 q3 r3 s3 l5 p5 q5 r5 l7 p7 q7 r7 l9 p9 q9 r9
  obtain ⟨l2, p2, q2, r2⟩ := id H2
  obtain ⟨l3, p3, q3, r3, s3⟩ := id H3
  obtain ⟨l5, p5, q5, r5⟩ := id H5
  obtain ⟨l7, p7, q7, r7⟩ := id H7
  obtain ⟨l9, p9, q9, r9⟩ := id H9
  go_region_held3 (fun w' => w'.cell? ⟨w6.heap.size, 0, none⟩ = some (.int .i8 x) ∧ w'.cell? ⟨w6.heap.size, 1, none⟩ = some (.int .i8 y) ∧ w'.cell? ⟨w6.heap.size, 2, none⟩ = some (.slice (some ⟨g7, 0, none⟩) n n) ∧ w'.cell? ⟨w.heap.size, 0, none⟩ = some (.int .i8 x) ∧ w'.cell? ⟨w.heap.size, 1, none⟩ = some (.int .i8 y) ∧ w'.cell? ⟨w.heap.size, 2, none⟩ = some (.slice A n ca))
    (first | exact ⟨p7, q7, r7, p2, q2, r2⟩)
    (first
      | (go_at_call 17
         with_reducible refine (toSquare_any x y A n ca w.heap.size c _ (by omega) B.size (HR.out.below B)).mono ?_
         rintro e w11 ⟨g10, rfl, hg10, hb, R10⟩
         replace H2 := H2.below hb
         replace H3 := H3.below hb
         replace H5 := H5.below hb
         replace H7 := H7.below hb
         replace H9 := H9.below hb
         replace R7 := rowNext0 R7 hb
         replace S5 := S5.below hb
         replace S9 := S9.below hb
         replace B := nxt B hb
         clear hb l2 p2 q2 r2 l3 p3 q3 r3 s3 l5 p5 q5 r5 l7 p7 q7 r7 l9 p9 q9 r9
         obtain ⟨l2, p2, q2, r2⟩ := id H2
         obtain ⟨l3, p3, q3, r3, s3⟩ := id H3
         obtain ⟨l5, p5, q5, r5⟩ := id H5
         obtain ⟨l7, p7, q7, r7⟩ := id H7
         obtain ⟨l9, p9, q9, r9⟩ := id H9)
      | (go_at_call 19
         with_reducible refine (eqSquare_yes x y (some ⟨g7, 0, none⟩) (some ⟨g10, 0, none⟩) n n n n w11.heap.size c c _ (by omega) (by omega) (Nat.le_refl _) ((Own8.of_row R7).rd R7.lt) ((Own8.of_row R10).rd R10.lt) ⟨rfl, fun _ _ => rfl⟩).mono ?_
         rintro e w12 ⟨rfl, hb⟩
         replace H2 := H2.below hb
         replace H3 := H3.below hb
         replace H5 := H5.below hb
         replace H7 := H7.below hb
         replace H9 := H9.below hb
         replace R7 := rowNext0 R7 hb
         replace S5 := S5.below hb
         replace S9 := S9.below hb
         replace B := nxt B hb
         clear hb l2 p2 q2 r2 l3 p3 q3 r3 s3 l5 p5 q5 r5 l7 p7 q7 r7 l9 p9 q9 r9
         obtain ⟨l2, p2, q2, r2⟩ := id H2
         obtain ⟨l3, p3, q3, r3, s3⟩ := id H3
         obtain ⟨l5, p5, q5, r5⟩ := id H5
         obtain ⟨l7, p7, q7, r7⟩ := id H7
         obtain ⟨l9, p9, q9, r9⟩ := id H9
         clear R10 hg10))
  go_wp2_with fail
  have hk4 : 0 ≤ 1 + 4 * (n : Int) := by omega
  have hk9 : 0 ≤ 1 + 4 * (nn : Int) := by omega
  have hkk : (1 + 4 * (nn : Int) != 1 + 4 * (nn : Int)) = false := by simp
  refine (markSquare_any x y (some ⟨g7, 0, none⟩) g7 0 n n c 1 _ (by omega) (by omega) (by omega) (fun _ => rfl) (Own8.of_row R7) (fun _ => R7.lt)).mono ?_
  rintro e w13 ⟨rfl, hgr, _⟩
  have hbw : w.heap.size ≤ g7 := by omega
  replace H2 := H2.grown hgr (by omega)
  replace H3 := H3.grown hgr (by omega)
  replace H5 := H5.grown hgr (by omega)
  replace H9 := H9.grown hgr (by omega)
  replace S5 := S5.kept hgr.size (fun h => hgr.block g5 (S5.2.1 h).2.2 (by have := n57 h; simp; omega))
  replace S9 := S9.kept hgr.size (fun h => hgr.block g9 (S9.2.1 h).2.2 (by have := n79 h; simp; omega))
  replace B := below_grown B hgr B.size hbw
  clear hgr l7 p7 q7 r7 R7 H7 l2 p2 q2 r2 l3 p3 q3 r3 s3 l5 p5 q5 r5 l9 p9 q9 r9
  obtain ⟨l2, p2, q2, r2⟩ := id H2
  obtain ⟨l3, p3, q3, r3, s3⟩ := id H3
  obtain ⟨l5, p5, q5, r5⟩ := id H5
  obtain ⟨l9, p9, q9, r9⟩ := id H9
  go_wp2_with fail
  refine (eqSq rx ry (by omega) S9 S5).mono ?_
  rintro e w14 ⟨rfl, hb⟩
  replace H2 := H2.below hb
  replace H3 := H3.below hb
  replace H5 := H5.below hb
  replace H9 := H9.below hb
  replace S5 := S5.below hb
  replace S9 := S9.below hb
  replace B := nxt B hb
  clear hb l2 p2 q2 r2 l3 p3 q3 r3 s3 l5 p5 q5 r5 l9 p9 q9 r9
  obtain ⟨l2, p2, q2, r2⟩ := id H2
  obtain ⟨l3, p3, q3, r3, s3⟩ := id H3
  obtain ⟨l5, p5, q5, r5⟩ := id H5
  obtain ⟨l9, p9, q9, r9⟩ := id H9
  go_wp2_with fail
  refine (markSq rx ry (by omega) S9).mono ?_
  rintro e w15 ⟨rfl, hgr, S9'⟩
  replace H2 := H2.of_block hgr.size (blockG hgr H2.1 (fun h => by have := n79 h; have := u9 h; omega))
  replace H3 := H3.of_block hgr.size (blockG hgr H3.1 (fun h => by have := n79 h; have := u9 h; omega))
  replace H5 := H5.of_block hgr.size (blockG hgr H5.1 (fun h => by have := n79 h; have := u9 h; omega))
  replace H9 := H9.of_block hgr.size (blockG hgr H9.1 (fun h => by have := n79 h; have := u9 h; omega))
  replace S5 := S5.kept hgr.size (fun h => blockG hgr (S5.2.1 h).2.2 (fun _ => by have := n57 h; have := n79 h; omega))
  replace S9 := S9'
  replace B := below_rowOf B hgr B.size (fun h => by have := n79 h; omega)
  clear hgr S9' l2 p2 q2 r2 l3 p3 q3 r3 s3 l5 p5 q5 r5 l9 p9 q9 r9
  obtain ⟨l2, p2, q2, r2⟩ := id H2
  obtain ⟨l3, p3, q3, r3, s3⟩ := id H3
  obtain ⟨l5, p5, q5, r5⟩ := id H5
  obtain ⟨l9, p9, q9, r9⟩ := id H9
  go_wp2_with fail
  refine (heldSq rx ry (by omega) S9).mono ?_
  rintro e w16 ⟨rfl, hb⟩
  replace H2 := H2.below hb
  replace H3 := H3.below hb
  replace H5 := H5.below hb
  replace H9 := H9.below hb
  replace S5 := S5.below hb
  replace S9 := S9.below hb
  replace B := nxt B hb
  clear hb l2 p2 q2 r2 l3 p3 q3 r3 s3 l5 p5 q5 r5 l9 p9 q9 r9
  obtain ⟨l2, p2, q2, r2⟩ := id H2
  obtain ⟨l3, p3, q3, r3, s3⟩ := id H3
  obtain ⟨l5, p5, q5, r5⟩ := id H5
  obtain ⟨l9, p9, q9, r9⟩ := id H9
  go_wp2_with fail
  go_upto_region 24 with fail
  go_cut [14, 15] (fun t14 t15 wx => ∃ (b19 : Nat) (A19 : Option Addr) (g19 cap19 base19 : Nat), t14 = .pointer (some ⟨b19, 0, none⟩) ∧ t15 = .int .i64 z1 ∧ Below w.heap.size w wx ∧ Sq wx w.heap.size x y (.slice A n ca) ∧ Sl wx (w.heap.size + 1) a0 a1 a2 a3 ∧ Sq wx b5 rx ry (.slice A5 nn cap5) ∧ Sq wx b9 rx ry (.slice A9 nn cap9) ∧ SliceOf .i8 4 wx base5 (.slice A5 nn cap5) nn ff A5 g5 cap5 ∧ SliceOf .i8 4 wx base9 (.slice A9 nn cap9) nn (mk8 1) A9 g9 cap9 ∧ Sq wx b19 rx ry (.slice A19 nn cap19) ∧ SliceOf .i8 4 wx base19 (.slice A19 nn cap19) nn ff A19 g19 cap19)
  case first =>
    replace B := B.drew
    replace H2 : Sq w16.drew _ _ _ _ := H2
    replace H3 : Sl w16.drew _ _ _ _ _ := H3
    replace H5 : Sq w16.drew _ _ _ _ := H5
    replace H9 : Sq w16.drew _ _ _ _ := H9
    replace S5 : SliceOf .i8 4 w16.drew _ _ nn _ A5 g5 cap5 := S5
    replace S9 : SliceOf .i8 4 w16.drew _ _ nn _ A9 g9 cap9 := S9
    clear l2 p2 q2 r2 l3 p3 q3 r3 s3 l5 p5 q5 r5 l9 p9 q9 r9
    obtain ⟨l2, p2, q2, r2⟩ := id H2
    obtain ⟨l3, p3, q3, r3, s3⟩ := id H3
    obtain ⟨l5, p5, q5, r5⟩ := id H5
    obtain ⟨l9, p9, q9, r9⟩ := id H9
    refine wp_region_held_drew (S := (fun w' => w'.cell? ⟨w.heap.size, 0, none⟩ = some (.int .i8 x) ∧ w'.cell? ⟨w.heap.size, 1, none⟩ = some (.int .i8 y) ∧ w'.cell? ⟨w.heap.size, 2, none⟩ = some (.slice A n ca) ∧ w'.cell? ⟨w.heap.size + 1, 0, none⟩ = some (.int .i8 a0) ∧ w'.cell? ⟨w.heap.size + 1, 1, none⟩ = some (.int .i8 a1) ∧ w'.cell? ⟨w.heap.size + 1, 2, none⟩ = some (.int .i8 a2) ∧ w'.cell? ⟨w.heap.size + 1, 3, none⟩ = some (.int .i8 a3))) (by kernel_rfl) ⟨p2, q2, r2, p3, q3, r3, s3⟩ (fun hHeld => ?_)
    obtain ⟨w0, hw0⟩ : ∃ w0, w16.drew = w0 := ⟨_, rfl⟩
    rw [hw0] at hHeld B H2 H3 H5 H9 S5 S9 l2 p2 q2 r2 l3 p3 q3 r3 s3 l5 p5 q5 r5 l9 p9 q9 r9 ⊢
    clear hw0
    refine wpAnyH_take (i := 0) (oi := _) (v := ?_) rfl (by kernel_rfl) (by kernel_rfl) (by kernel_rfl) (fun _ _ _ h => h) (Or.inl ⟨by kernel_rfl, ?_⟩) (by assumption) ?_
    rotate_left
    · intro w hSw; (try dsimp only at hSw); go_simp; first | done | with_reducible rfl
    try simp only [List.getElem_toArray, List.getElem_cons_zero, List.getElem_cons_succ, Act.put, List.setIfInBounds_toArray, List.set_cons_zero, List.set_cons_succ]
    refine wpAnyH_take (i := 2) (oi := _) (v := ?_) rfl (by kernel_rfl) (by kernel_rfl) (by kernel_rfl) (fun _ _ _ h => h) (Or.inl ⟨by kernel_rfl, ?_⟩) (by assumption) ?_
    rotate_left
    · intro w hSw; (try dsimp only at hSw); go_simp; first | done | with_reducible rfl
    try simp only [List.getElem_toArray, List.getElem_cons_zero, List.getElem_cons_succ, Act.put, List.setIfInBounds_toArray, List.set_cons_zero, List.set_cons_succ]
    refine wpAnyH_ready (rs := [1, 8]) (by kernel_rfl) (by simp) ?_
    refine AllReadyH.cons (o := _) rfl (fun K hK => ?_) (AllReadyH.cons (o := _) rfl (fun K hK => ?_) AllReadyH.nil)
    rotate_left
    · skip
      go_simp
      have nS5 : 0 < nn → g5 < w0.heap.size := fun h => (S5.2.1 h).2.2
      have nS9 : 0 < nn → g9 < w0.heap.size := fun h => (S9.2.1 h).2.2
      have HB := Bx.new w0 #[.int .i8 0, .int .i8 0, .slice none 0 0] 29
      replace H2 := H2.alloc (.cells #[.int .i8 0, .int .i8 0, .slice none 0 0] 29)
      replace H3 := H3.alloc (.cells #[.int .i8 0, .int .i8 0, .slice none 0 0] 29)
      replace H5 := H5.alloc (.cells #[.int .i8 0, .int .i8 0, .slice none 0 0] 29)
      replace H9 := H9.alloc (.cells #[.int .i8 0, .int .i8 0, .slice none 0 0] 29)
      replace S5 := S5.alloc (.cells #[.int .i8 0, .int .i8 0, .slice none 0 0] 29)
      replace S9 := S9.alloc (.cells #[.int .i8 0, .int .i8 0, .slice none 0 0] 29)
      have nb2 : w.heap.size < w0.heap.size := l2
      have nb3 : (w.heap.size + 1) < w0.heap.size := l3
      have nb5 : b5 < w0.heap.size := l5
      have nb9 : b9 < w0.heap.size := l9
      have nbw : w.heap.size ≤ w0.heap.size := B.size
      replace B := al B (.cells #[.int .i8 0, .int .i8 0, .slice none 0 0] 29)
      obtain ⟨wa1, hwa⟩ : ∃ wa1, w0.alloc (.cells #[.int .i8 0, .int .i8 0, .slice none 0 0] 29) = wa1 := ⟨_, rfl⟩
      rw [hwa] at HB B H2 H3 H5 H9 S5 S9 ⊢
      clear hwa l2 p2 q2 r2 l3 p3 q3 r3 s3 l5 p5 q5 r5 l9 p9 q9 r9
      obtain ⟨l2, p2, q2, r2⟩ := id H2
      obtain ⟨l3, p3, q3, r3, s3⟩ := id H3
      obtain ⟨l5, p5, q5, r5⟩ := id H5
      obtain ⟨l9, p9, q9, r9⟩ := id H9
      refine hK.out _ _ ⟨p2, q2, r2, p3, q3, r3, s3⟩ (fun hHeld => ?_)
      clear hK K
      try simp only [List.getElem_toArray, List.getElem_cons_zero, List.getElem_cons_succ, Act.put, List.setIfInBounds_toArray, List.set_cons_zero, List.set_cons_succ]
      refine wpAnyH_ready (rs := [1]) (by kernel_rfl) (by simp) ?_
      refine AllReadyH.cons (o := _) rfl (fun K hK => ?_) AllReadyH.nil
      go_simp
      refine (toSquare_any x y A n ca w.heap.size c _ (by omega) B.size (HR.out.below B)).mono ?_
      rintro e w17 ⟨g18, rfl, hg18, hb, R18⟩
      replace H2 := H2.below hb
      replace H3 := H3.below hb
      replace H5 := H5.below hb
      replace H9 := H9.below hb
      replace S5 := S5.below hb
      replace S9 := S9.below hb
      replace HB := HB.below hb
      replace B := nxt B hb
      clear hb l2 p2 q2 r2 l3 p3 q3 r3 s3 l5 p5 q5 r5 l9 p9 q9 r9
      obtain ⟨l2, p2, q2, r2⟩ := id H2
      obtain ⟨l3, p3, q3, r3, s3⟩ := id H3
      obtain ⟨l5, p5, q5, r5⟩ := id H5
      obtain ⟨l9, p9, q9, r9⟩ := id H9
      refine hK.out _ _ ⟨p2, q2, r2, p3, q3, r3, s3⟩ (fun hHeld => ?_)
      clear hK K
      try simp only [List.getElem_toArray, List.getElem_cons_zero, List.getElem_cons_succ, Act.put, List.setIfInBounds_toArray, List.set_cons_zero, List.set_cons_succ]
      refine wpAnyH_ready (rs := [3]) (by kernel_rfl) (by simp) ?_
      refine AllReadyH.cons (o := _) rfl (fun K hK => ?_) AllReadyH.nil
      go_simp
      refine (toSlab_any a0 a1 a2 a3 _).mono ?_
      rintro e w18 ⟨rfl, hb⟩
      replace H2 := H2.below hb
      replace H3 := H3.below hb
      replace H5 := H5.below hb
      replace H9 := H9.below hb
      replace R18 := rowNext0 R18 hb
      replace S5 := S5.below hb
      replace S9 := S9.below hb
      replace HB := HB.below hb
      replace B := nxt B hb
      clear hb l2 p2 q2 r2 l3 p3 q3 r3 s3 l5 p5 q5 r5 l9 p9 q9 r9
      obtain ⟨l2, p2, q2, r2⟩ := id H2
      obtain ⟨l3, p3, q3, r3, s3⟩ := id H3
      obtain ⟨l5, p5, q5, r5⟩ := id H5
      obtain ⟨l9, p9, q9, r9⟩ := id H9
      refine hK.out _ _ ⟨p2, q2, r2, p3, q3, r3, s3⟩ (fun hHeld => ?_)
      clear hK K
      try simp only [List.getElem_toArray, List.getElem_cons_zero, List.getElem_cons_succ, Act.put, List.setIfInBounds_toArray, List.set_cons_zero, List.set_cons_succ]
      refine wpAnyH_ready (rs := [4]) (by kernel_rfl) (by simp) ?_
      refine AllReadyH.cons (o := _) rfl (fun K hK => ?_) AllReadyH.nil
      go_simp
      refine (HI.out _ g18 B.size R18).mono ?_
      rintro e w19 ⟨hb, v19, rfl, A19, g19, cap19, S19⟩
      obtain rfl := S19.1
      have ng : 0 < nn → g19 ≠ w0.heap.size := fun h => by have := (S19.2.1 h).2.1; have := HB.lt; omega
      replace H2 := H2.below hb
      replace H3 := H3.below hb
      replace H5 := H5.below hb
      replace H9 := H9.below hb
      replace R18 := rowNext0 R18 hb
      replace S5 := S5.below hb
      replace S9 := S9.below hb
      replace HB := HB.below hb
      replace B := nxt B hb
      clear hb l2 p2 q2 r2 l3 p3 q3 r3 s3 l5 p5 q5 r5 l9 p9 q9 r9
      obtain ⟨l2, p2, q2, r2⟩ := id H2
      obtain ⟨l3, p3, q3, r3, s3⟩ := id H3
      obtain ⟨l5, p5, q5, r5⟩ := id H5
      obtain ⟨l9, p9, q9, r9⟩ := id H9
      refine hK.out _ _ ⟨p2, q2, r2, p3, q3, r3, s3⟩ (fun hHeld => ?_)
      clear hK K
      try simp only [List.getElem_toArray, List.getElem_cons_zero, List.getElem_cons_succ, Act.put, List.setIfInBounds_toArray, List.set_cons_zero, List.set_cons_succ]
      refine wpAnyH_take (i := 5) (oi := _) (v := ?_) rfl (by kernel_rfl) (by kernel_rfl) (by kernel_rfl) (fun _ _ _ h => h) (Or.inl ⟨by kernel_rfl, ?_⟩) (by assumption) ?_
      rotate_left
      · intro w hSw; (try dsimp only at hSw); go_simp; first | done | with_reducible rfl
      try simp only [List.getElem_toArray, List.getElem_cons_zero, List.getElem_cons_succ, Act.put, List.setIfInBounds_toArray, List.set_cons_zero, List.set_cons_succ]
      refine wpAnyH_take (i := 6) (oi := _) (v := ?_) rfl (by kernel_rfl) (by kernel_rfl) (by kernel_rfl) (fun _ _ _ h => h) (Or.inl ⟨by kernel_rfl, ?_⟩) (by assumption) ?_
      rotate_left
      · intro w hSw; (try dsimp only at hSw); go_simp; first | done | with_reducible rfl
      try simp only [List.getElem_toArray, List.getElem_cons_zero, List.getElem_cons_succ, Act.put, List.setIfInBounds_toArray, List.set_cons_zero, List.set_cons_succ]
      refine wpAnyH_take (i := 7) (oi := _) (v := ?_) rfl (by kernel_rfl) (by kernel_rfl) (by kernel_rfl) (fun _ _ _ h => h) (Or.inl ⟨by kernel_rfl, ?_⟩) (by assumption) ?_
      rotate_left
      · intro w hSw; (try dsimp only at hSw); go_simp; first | done | with_reducible rfl
      try simp only [List.getElem_toArray, List.getElem_cons_zero, List.getElem_cons_succ, Act.put, List.setIfInBounds_toArray, List.set_cons_zero, List.set_cons_succ]
      obtain ⟨pB, qB, rB⟩ := HB.cells3
      have fB0 := HB.frozen 0
      have fB1 := HB.frozen 1
      have fB2 := HB.frozen 2
      have GB := HB.set3 (.int .i8 rx) (.int .i8 ry) (.slice A19 nn cap19)
      have B' := below_set3 (g := w0.heap.size) (v0 := .int .i8 rx) (v1 := .int .i8 ry) (v2 := .slice A19 nn cap19) B nbw
      have G2 : Sq (((w19.setCell ⟨w0.heap.size, 0, none⟩ (.int .i8 rx)).setCell ⟨w0.heap.size, 1, none⟩ (.int .i8 ry)).setCell ⟨w0.heap.size, 2, none⟩ (.slice A19 nn cap19)) _ _ _ _ := H2.of_block (by simp) (blk3 (by omega))
      have G3 : Sl (((w19.setCell ⟨w0.heap.size, 0, none⟩ (.int .i8 rx)).setCell ⟨w0.heap.size, 1, none⟩ (.int .i8 ry)).setCell ⟨w0.heap.size, 2, none⟩ (.slice A19 nn cap19)) _ _ _ _ _ := H3.of_block (by simp) (blk3 (by omega))
      have G5 : Sq (((w19.setCell ⟨w0.heap.size, 0, none⟩ (.int .i8 rx)).setCell ⟨w0.heap.size, 1, none⟩ (.int .i8 ry)).setCell ⟨w0.heap.size, 2, none⟩ (.slice A19 nn cap19)) _ _ _ _ := H5.of_block (by simp) (blk3 (by omega))
      have G9 : Sq (((w19.setCell ⟨w0.heap.size, 0, none⟩ (.int .i8 rx)).setCell ⟨w0.heap.size, 1, none⟩ (.int .i8 ry)).setCell ⟨w0.heap.size, 2, none⟩ (.slice A19 nn cap19)) _ _ _ _ := H9.of_block (by simp) (blk3 (by omega))
      have GS5 := S5.kept (w' := (((w19.setCell ⟨w0.heap.size, 0, none⟩ (.int .i8 rx)).setCell ⟨w0.heap.size, 1, none⟩ (.int .i8 ry)).setCell ⟨w0.heap.size, 2, none⟩ (.slice A19 nn cap19))) (by simp) (fun h => blk3 (by have := (S5.2.1 h).2.2; have := nS5 h; omega))
      have GS9 := S9.kept (w' := (((w19.setCell ⟨w0.heap.size, 0, none⟩ (.int .i8 rx)).setCell ⟨w0.heap.size, 1, none⟩ (.int .i8 ry)).setCell ⟨w0.heap.size, 2, none⟩ (.slice A19 nn cap19))) (by simp) (fun h => blk3 (by have := (S9.2.1 h).2.2; have := nS9 h; omega))
      have GS19 := S19.kept (w' := (((w19.setCell ⟨w0.heap.size, 0, none⟩ (.int .i8 rx)).setCell ⟨w0.heap.size, 1, none⟩ (.int .i8 ry)).setCell ⟨w0.heap.size, 2, none⟩ (.slice A19 nn cap19))) (by simp) (fun h => blk3 (ng h))
      refine wpAnyH_ready (rs := [9]) (by kernel_rfl) (by simp) ?_
      refine AllReadyH.cons (o := _) rfl (fun K hK => ?_) AllReadyH.nil
      go_simp
      refine hK.out _ _ ⟨G2.2.1, G2.2.2.1, G2.2.2.2, G3.2.1, G3.2.2.1, G3.2.2.2.1, G3.2.2.2.2⟩ (fun hHeld => ?_)
      clear hK K
      try simp only [List.getElem_toArray, List.getElem_cons_zero, List.getElem_cons_succ, Act.put, List.setIfInBounds_toArray, List.set_cons_zero, List.set_cons_succ]
      refine wpAnyH_take (i := 10) (oi := _) (v := ?_) rfl (by kernel_rfl) (by kernel_rfl) (by kernel_rfl) (fun _ _ _ h => h) (Or.inl ⟨by kernel_rfl, ?_⟩) (by assumption) ?_
      rotate_left
      · intro w hSw; (try dsimp only at hSw); go_simp; first | done | with_reducible rfl
      try simp only [List.getElem_toArray, List.getElem_cons_zero, List.getElem_cons_succ, Act.put, List.setIfInBounds_toArray, List.set_cons_zero, List.set_cons_succ]
      refine wpAnyH_done (by kernel_rfl) ?_ _
      go_wp2_with fail
      go_meet
      exact ⟨_, A19, g19, cap19, _, rfl, rfl, B', G2, G3, G5, G9, GS5, GS9, ⟨GB.lt, GB.cells3.1, GB.cells3.2.1, GB.cells3.2.2⟩, GS19⟩
    · skip
      go_simp
      refine (toSquare_any x y A n ca w.heap.size c _ (by omega) B.size (HR.out.below B)).mono ?_
      rintro e w17 ⟨g18, rfl, hg18, hb, R18⟩
      replace H2 := H2.below hb
      replace H3 := H3.below hb
      replace H5 := H5.below hb
      replace H9 := H9.below hb
      replace S5 := S5.below hb
      replace S9 := S9.below hb
      replace B := nxt B hb
      clear hb l2 p2 q2 r2 l3 p3 q3 r3 s3 l5 p5 q5 r5 l9 p9 q9 r9
      obtain ⟨l2, p2, q2, r2⟩ := id H2
      obtain ⟨l3, p3, q3, r3, s3⟩ := id H3
      obtain ⟨l5, p5, q5, r5⟩ := id H5
      obtain ⟨l9, p9, q9, r9⟩ := id H9
      refine hK.out _ _ ⟨p2, q2, r2, p3, q3, r3, s3⟩ (fun hHeld => ?_)
      clear hK K
      try simp only [List.getElem_toArray, List.getElem_cons_zero, List.getElem_cons_succ, Act.put, List.setIfInBounds_toArray, List.set_cons_zero, List.set_cons_succ]
      refine wpAnyH_ready (rs := [3, 8]) (by kernel_rfl) (by simp) ?_
      refine AllReadyH.cons (o := _) rfl (fun K hK => ?_) (AllReadyH.cons (o := _) rfl (fun K hK => ?_) AllReadyH.nil)
      rotate_left
      · skip
        go_simp
        have nS5 : 0 < nn → g5 < w17.heap.size := fun h => (S5.2.1 h).2.2
        have nS9 : 0 < nn → g9 < w17.heap.size := fun h => (S9.2.1 h).2.2
        have HB := Bx.new w17 #[.int .i8 0, .int .i8 0, .slice none 0 0] 29
        replace H2 := H2.alloc (.cells #[.int .i8 0, .int .i8 0, .slice none 0 0] 29)
        replace H3 := H3.alloc (.cells #[.int .i8 0, .int .i8 0, .slice none 0 0] 29)
        replace H5 := H5.alloc (.cells #[.int .i8 0, .int .i8 0, .slice none 0 0] 29)
        replace H9 := H9.alloc (.cells #[.int .i8 0, .int .i8 0, .slice none 0 0] 29)
        replace R18 := R18.alloc (.cells #[.int .i8 0, .int .i8 0, .slice none 0 0] 29)
        replace S5 := S5.alloc (.cells #[.int .i8 0, .int .i8 0, .slice none 0 0] 29)
        replace S9 := S9.alloc (.cells #[.int .i8 0, .int .i8 0, .slice none 0 0] 29)
        have nb2 : w.heap.size < w17.heap.size := l2
        have nb3 : (w.heap.size + 1) < w17.heap.size := l3
        have nb5 : b5 < w17.heap.size := l5
        have nb9 : b9 < w17.heap.size := l9
        have nbw : w.heap.size ≤ w17.heap.size := B.size
        replace B := al B (.cells #[.int .i8 0, .int .i8 0, .slice none 0 0] 29)
        obtain ⟨wa2, hwa⟩ : ∃ wa2, w17.alloc (.cells #[.int .i8 0, .int .i8 0, .slice none 0 0] 29) = wa2 := ⟨_, rfl⟩
        rw [hwa] at HB B H2 H3 H5 H9 R18 S5 S9 ⊢
        clear hwa l2 p2 q2 r2 l3 p3 q3 r3 s3 l5 p5 q5 r5 l9 p9 q9 r9
        obtain ⟨l2, p2, q2, r2⟩ := id H2
        obtain ⟨l3, p3, q3, r3, s3⟩ := id H3
        obtain ⟨l5, p5, q5, r5⟩ := id H5
        obtain ⟨l9, p9, q9, r9⟩ := id H9
        refine hK.out _ _ ⟨p2, q2, r2, p3, q3, r3, s3⟩ (fun hHeld => ?_)
        clear hK K
        try simp only [List.getElem_toArray, List.getElem_cons_zero, List.getElem_cons_succ, Act.put, List.setIfInBounds_toArray, List.set_cons_zero, List.set_cons_succ]
        refine wpAnyH_ready (rs := [3]) (by kernel_rfl) (by simp) ?_
        refine AllReadyH.cons (o := _) rfl (fun K hK => ?_) AllReadyH.nil
        go_simp
        refine (toSlab_any a0 a1 a2 a3 _).mono ?_
        rintro e w18 ⟨rfl, hb⟩
        replace H2 := H2.below hb
        replace H3 := H3.below hb
        replace H5 := H5.below hb
        replace H9 := H9.below hb
        replace R18 := rowNext0 R18 hb
        replace S5 := S5.below hb
        replace S9 := S9.below hb
        replace HB := HB.below hb
        replace B := nxt B hb
        clear hb l2 p2 q2 r2 l3 p3 q3 r3 s3 l5 p5 q5 r5 l9 p9 q9 r9
        obtain ⟨l2, p2, q2, r2⟩ := id H2
        obtain ⟨l3, p3, q3, r3, s3⟩ := id H3
        obtain ⟨l5, p5, q5, r5⟩ := id H5
        obtain ⟨l9, p9, q9, r9⟩ := id H9
        refine hK.out _ _ ⟨p2, q2, r2, p3, q3, r3, s3⟩ (fun hHeld => ?_)
        clear hK K
        try simp only [List.getElem_toArray, List.getElem_cons_zero, List.getElem_cons_succ, Act.put, List.setIfInBounds_toArray, List.set_cons_zero, List.set_cons_succ]
        refine wpAnyH_ready (rs := [4]) (by kernel_rfl) (by simp) ?_
        refine AllReadyH.cons (o := _) rfl (fun K hK => ?_) AllReadyH.nil
        go_simp
        refine (HI.out _ g18 B.size R18).mono ?_
        rintro e w19 ⟨hb, v19, rfl, A19, g19, cap19, S19⟩
        obtain rfl := S19.1
        have ng : 0 < nn → g19 ≠ w17.heap.size := fun h => by have := (S19.2.1 h).2.1; have := HB.lt; omega
        replace H2 := H2.below hb
        replace H3 := H3.below hb
        replace H5 := H5.below hb
        replace H9 := H9.below hb
        replace R18 := rowNext0 R18 hb
        replace S5 := S5.below hb
        replace S9 := S9.below hb
        replace HB := HB.below hb
        replace B := nxt B hb
        clear hb l2 p2 q2 r2 l3 p3 q3 r3 s3 l5 p5 q5 r5 l9 p9 q9 r9
        obtain ⟨l2, p2, q2, r2⟩ := id H2
        obtain ⟨l3, p3, q3, r3, s3⟩ := id H3
        obtain ⟨l5, p5, q5, r5⟩ := id H5
        obtain ⟨l9, p9, q9, r9⟩ := id H9
        refine hK.out _ _ ⟨p2, q2, r2, p3, q3, r3, s3⟩ (fun hHeld => ?_)
        clear hK K
        try simp only [List.getElem_toArray, List.getElem_cons_zero, List.getElem_cons_succ, Act.put, List.setIfInBounds_toArray, List.set_cons_zero, List.set_cons_succ]
        refine wpAnyH_take (i := 5) (oi := _) (v := ?_) rfl (by kernel_rfl) (by kernel_rfl) (by kernel_rfl) (fun _ _ _ h => h) (Or.inl ⟨by kernel_rfl, ?_⟩) (by assumption) ?_
        rotate_left
        · intro w hSw; (try dsimp only at hSw); go_simp; first | done | with_reducible rfl
        try simp only [List.getElem_toArray, List.getElem_cons_zero, List.getElem_cons_succ, Act.put, List.setIfInBounds_toArray, List.set_cons_zero, List.set_cons_succ]
        refine wpAnyH_take (i := 6) (oi := _) (v := ?_) rfl (by kernel_rfl) (by kernel_rfl) (by kernel_rfl) (fun _ _ _ h => h) (Or.inl ⟨by kernel_rfl, ?_⟩) (by assumption) ?_
        rotate_left
        · intro w hSw; (try dsimp only at hSw); go_simp; first | done | with_reducible rfl
        try simp only [List.getElem_toArray, List.getElem_cons_zero, List.getElem_cons_succ, Act.put, List.setIfInBounds_toArray, List.set_cons_zero, List.set_cons_succ]
        refine wpAnyH_take (i := 7) (oi := _) (v := ?_) rfl (by kernel_rfl) (by kernel_rfl) (by kernel_rfl) (fun _ _ _ h => h) (Or.inl ⟨by kernel_rfl, ?_⟩) (by assumption) ?_
        rotate_left
        · intro w hSw; (try dsimp only at hSw); go_simp; first | done | with_reducible rfl
        try simp only [List.getElem_toArray, List.getElem_cons_zero, List.getElem_cons_succ, Act.put, List.setIfInBounds_toArray, List.set_cons_zero, List.set_cons_succ]
        obtain ⟨pB, qB, rB⟩ := HB.cells3
        have fB0 := HB.frozen 0
        have fB1 := HB.frozen 1
        have fB2 := HB.frozen 2
        have GB := HB.set3 (.int .i8 rx) (.int .i8 ry) (.slice A19 nn cap19)
        have B' := below_set3 (g := w17.heap.size) (v0 := .int .i8 rx) (v1 := .int .i8 ry) (v2 := .slice A19 nn cap19) B nbw
        have G2 : Sq (((w19.setCell ⟨w17.heap.size, 0, none⟩ (.int .i8 rx)).setCell ⟨w17.heap.size, 1, none⟩ (.int .i8 ry)).setCell ⟨w17.heap.size, 2, none⟩ (.slice A19 nn cap19)) _ _ _ _ := H2.of_block (by simp) (blk3 (by omega))
        have G3 : Sl (((w19.setCell ⟨w17.heap.size, 0, none⟩ (.int .i8 rx)).setCell ⟨w17.heap.size, 1, none⟩ (.int .i8 ry)).setCell ⟨w17.heap.size, 2, none⟩ (.slice A19 nn cap19)) _ _ _ _ _ := H3.of_block (by simp) (blk3 (by omega))
        have G5 : Sq (((w19.setCell ⟨w17.heap.size, 0, none⟩ (.int .i8 rx)).setCell ⟨w17.heap.size, 1, none⟩ (.int .i8 ry)).setCell ⟨w17.heap.size, 2, none⟩ (.slice A19 nn cap19)) _ _ _ _ := H5.of_block (by simp) (blk3 (by omega))
        have G9 : Sq (((w19.setCell ⟨w17.heap.size, 0, none⟩ (.int .i8 rx)).setCell ⟨w17.heap.size, 1, none⟩ (.int .i8 ry)).setCell ⟨w17.heap.size, 2, none⟩ (.slice A19 nn cap19)) _ _ _ _ := H9.of_block (by simp) (blk3 (by omega))
        have GS5 := S5.kept (w' := (((w19.setCell ⟨w17.heap.size, 0, none⟩ (.int .i8 rx)).setCell ⟨w17.heap.size, 1, none⟩ (.int .i8 ry)).setCell ⟨w17.heap.size, 2, none⟩ (.slice A19 nn cap19))) (by simp) (fun h => blk3 (by have := (S5.2.1 h).2.2; have := nS5 h; omega))
        have GS9 := S9.kept (w' := (((w19.setCell ⟨w17.heap.size, 0, none⟩ (.int .i8 rx)).setCell ⟨w17.heap.size, 1, none⟩ (.int .i8 ry)).setCell ⟨w17.heap.size, 2, none⟩ (.slice A19 nn cap19))) (by simp) (fun h => blk3 (by have := (S9.2.1 h).2.2; have := nS9 h; omega))
        have GS19 := S19.kept (w' := (((w19.setCell ⟨w17.heap.size, 0, none⟩ (.int .i8 rx)).setCell ⟨w17.heap.size, 1, none⟩ (.int .i8 ry)).setCell ⟨w17.heap.size, 2, none⟩ (.slice A19 nn cap19))) (by simp) (fun h => blk3 (ng h))
        refine wpAnyH_ready (rs := [9]) (by kernel_rfl) (by simp) ?_
        refine AllReadyH.cons (o := _) rfl (fun K hK => ?_) AllReadyH.nil
        go_simp
        refine hK.out _ _ ⟨G2.2.1, G2.2.2.1, G2.2.2.2, G3.2.1, G3.2.2.1, G3.2.2.2.1, G3.2.2.2.2⟩ (fun hHeld => ?_)
        clear hK K
        try simp only [List.getElem_toArray, List.getElem_cons_zero, List.getElem_cons_succ, Act.put, List.setIfInBounds_toArray, List.set_cons_zero, List.set_cons_succ]
        refine wpAnyH_take (i := 10) (oi := _) (v := ?_) rfl (by kernel_rfl) (by kernel_rfl) (by kernel_rfl) (fun _ _ _ h => h) (Or.inl ⟨by kernel_rfl, ?_⟩) (by assumption) ?_
        rotate_left
        · intro w hSw; (try dsimp only at hSw); go_simp; first | done | with_reducible rfl
        try simp only [List.getElem_toArray, List.getElem_cons_zero, List.getElem_cons_succ, Act.put, List.setIfInBounds_toArray, List.set_cons_zero, List.set_cons_succ]
        refine wpAnyH_done (by kernel_rfl) ?_ _
        go_wp2_with fail
        go_meet
        exact ⟨_, A19, g19, cap19, _, rfl, rfl, B', G2, G3, G5, G9, GS5, GS9, ⟨GB.lt, GB.cells3.1, GB.cells3.2.1, GB.cells3.2.2⟩, GS19⟩
      · skip
        go_simp
        refine (toSlab_any a0 a1 a2 a3 _).mono ?_
        rintro e w18 ⟨rfl, hb⟩
        replace H2 := H2.below hb
        replace H3 := H3.below hb
        replace H5 := H5.below hb
        replace H9 := H9.below hb
        replace R18 := rowNext0 R18 hb
        replace S5 := S5.below hb
        replace S9 := S9.below hb
        replace B := nxt B hb
        clear hb l2 p2 q2 r2 l3 p3 q3 r3 s3 l5 p5 q5 r5 l9 p9 q9 r9
        obtain ⟨l2, p2, q2, r2⟩ := id H2
        obtain ⟨l3, p3, q3, r3, s3⟩ := id H3
        obtain ⟨l5, p5, q5, r5⟩ := id H5
        obtain ⟨l9, p9, q9, r9⟩ := id H9
        refine hK.out _ _ ⟨p2, q2, r2, p3, q3, r3, s3⟩ (fun hHeld => ?_)
        clear hK K
        try simp only [List.getElem_toArray, List.getElem_cons_zero, List.getElem_cons_succ, Act.put, List.setIfInBounds_toArray, List.set_cons_zero, List.set_cons_succ]
        refine wpAnyH_ready (rs := [4, 8]) (by kernel_rfl) (by simp) ?_
        refine AllReadyH.cons (o := _) rfl (fun K hK => ?_) (AllReadyH.cons (o := _) rfl (fun K hK => ?_) AllReadyH.nil)
        rotate_left
        · skip
          go_simp
          have nS5 : 0 < nn → g5 < w18.heap.size := fun h => (S5.2.1 h).2.2
          have nS9 : 0 < nn → g9 < w18.heap.size := fun h => (S9.2.1 h).2.2
          have HB := Bx.new w18 #[.int .i8 0, .int .i8 0, .slice none 0 0] 29
          replace H2 := H2.alloc (.cells #[.int .i8 0, .int .i8 0, .slice none 0 0] 29)
          replace H3 := H3.alloc (.cells #[.int .i8 0, .int .i8 0, .slice none 0 0] 29)
          replace H5 := H5.alloc (.cells #[.int .i8 0, .int .i8 0, .slice none 0 0] 29)
          replace H9 := H9.alloc (.cells #[.int .i8 0, .int .i8 0, .slice none 0 0] 29)
          replace R18 := R18.alloc (.cells #[.int .i8 0, .int .i8 0, .slice none 0 0] 29)
          replace S5 := S5.alloc (.cells #[.int .i8 0, .int .i8 0, .slice none 0 0] 29)
          replace S9 := S9.alloc (.cells #[.int .i8 0, .int .i8 0, .slice none 0 0] 29)
          have nb2 : w.heap.size < w18.heap.size := l2
          have nb3 : (w.heap.size + 1) < w18.heap.size := l3
          have nb5 : b5 < w18.heap.size := l5
          have nb9 : b9 < w18.heap.size := l9
          have nbw : w.heap.size ≤ w18.heap.size := B.size
          replace B := al B (.cells #[.int .i8 0, .int .i8 0, .slice none 0 0] 29)
          obtain ⟨wa3, hwa⟩ : ∃ wa3, w18.alloc (.cells #[.int .i8 0, .int .i8 0, .slice none 0 0] 29) = wa3 := ⟨_, rfl⟩
          rw [hwa] at HB B H2 H3 H5 H9 R18 S5 S9 ⊢
          clear hwa l2 p2 q2 r2 l3 p3 q3 r3 s3 l5 p5 q5 r5 l9 p9 q9 r9
          obtain ⟨l2, p2, q2, r2⟩ := id H2
          obtain ⟨l3, p3, q3, r3, s3⟩ := id H3
          obtain ⟨l5, p5, q5, r5⟩ := id H5
          obtain ⟨l9, p9, q9, r9⟩ := id H9
          refine hK.out _ _ ⟨p2, q2, r2, p3, q3, r3, s3⟩ (fun hHeld => ?_)
          clear hK K
          try simp only [List.getElem_toArray, List.getElem_cons_zero, List.getElem_cons_succ, Act.put, List.setIfInBounds_toArray, List.set_cons_zero, List.set_cons_succ]
          refine wpAnyH_ready (rs := [4]) (by kernel_rfl) (by simp) ?_
          refine AllReadyH.cons (o := _) rfl (fun K hK => ?_) AllReadyH.nil
          go_simp
          refine (HI.out _ g18 B.size R18).mono ?_
          rintro e w19 ⟨hb, v19, rfl, A19, g19, cap19, S19⟩
          obtain rfl := S19.1
          have ng : 0 < nn → g19 ≠ w18.heap.size := fun h => by have := (S19.2.1 h).2.1; have := HB.lt; omega
          replace H2 := H2.below hb
          replace H3 := H3.below hb
          replace H5 := H5.below hb
          replace H9 := H9.below hb
          replace R18 := rowNext0 R18 hb
          replace S5 := S5.below hb
          replace S9 := S9.below hb
          replace HB := HB.below hb
          replace B := nxt B hb
          clear hb l2 p2 q2 r2 l3 p3 q3 r3 s3 l5 p5 q5 r5 l9 p9 q9 r9
          obtain ⟨l2, p2, q2, r2⟩ := id H2
          obtain ⟨l3, p3, q3, r3, s3⟩ := id H3
          obtain ⟨l5, p5, q5, r5⟩ := id H5
          obtain ⟨l9, p9, q9, r9⟩ := id H9
          refine hK.out _ _ ⟨p2, q2, r2, p3, q3, r3, s3⟩ (fun hHeld => ?_)
          clear hK K
          try simp only [List.getElem_toArray, List.getElem_cons_zero, List.getElem_cons_succ, Act.put, List.setIfInBounds_toArray, List.set_cons_zero, List.set_cons_succ]
          refine wpAnyH_take (i := 5) (oi := _) (v := ?_) rfl (by kernel_rfl) (by kernel_rfl) (by kernel_rfl) (fun _ _ _ h => h) (Or.inl ⟨by kernel_rfl, ?_⟩) (by assumption) ?_
          rotate_left
          · intro w hSw; (try dsimp only at hSw); go_simp; first | done | with_reducible rfl
          try simp only [List.getElem_toArray, List.getElem_cons_zero, List.getElem_cons_succ, Act.put, List.setIfInBounds_toArray, List.set_cons_zero, List.set_cons_succ]
          refine wpAnyH_take (i := 6) (oi := _) (v := ?_) rfl (by kernel_rfl) (by kernel_rfl) (by kernel_rfl) (fun _ _ _ h => h) (Or.inl ⟨by kernel_rfl, ?_⟩) (by assumption) ?_
          rotate_left
          · intro w hSw; (try dsimp only at hSw); go_simp; first | done | with_reducible rfl
          try simp only [List.getElem_toArray, List.getElem_cons_zero, List.getElem_cons_succ, Act.put, List.setIfInBounds_toArray, List.set_cons_zero, List.set_cons_succ]
          refine wpAnyH_take (i := 7) (oi := _) (v := ?_) rfl (by kernel_rfl) (by kernel_rfl) (by kernel_rfl) (fun _ _ _ h => h) (Or.inl ⟨by kernel_rfl, ?_⟩) (by assumption) ?_
          rotate_left
          · intro w hSw; (try dsimp only at hSw); go_simp; first | done | with_reducible rfl
          try simp only [List.getElem_toArray, List.getElem_cons_zero, List.getElem_cons_succ, Act.put, List.setIfInBounds_toArray, List.set_cons_zero, List.set_cons_succ]
          obtain ⟨pB, qB, rB⟩ := HB.cells3
          have fB0 := HB.frozen 0
          have fB1 := HB.frozen 1
          have fB2 := HB.frozen 2
          have GB := HB.set3 (.int .i8 rx) (.int .i8 ry) (.slice A19 nn cap19)
          have B' := below_set3 (g := w18.heap.size) (v0 := .int .i8 rx) (v1 := .int .i8 ry) (v2 := .slice A19 nn cap19) B nbw
          have G2 : Sq (((w19.setCell ⟨w18.heap.size, 0, none⟩ (.int .i8 rx)).setCell ⟨w18.heap.size, 1, none⟩ (.int .i8 ry)).setCell ⟨w18.heap.size, 2, none⟩ (.slice A19 nn cap19)) _ _ _ _ := H2.of_block (by simp) (blk3 (by omega))
          have G3 : Sl (((w19.setCell ⟨w18.heap.size, 0, none⟩ (.int .i8 rx)).setCell ⟨w18.heap.size, 1, none⟩ (.int .i8 ry)).setCell ⟨w18.heap.size, 2, none⟩ (.slice A19 nn cap19)) _ _ _ _ _ := H3.of_block (by simp) (blk3 (by omega))
          have G5 : Sq (((w19.setCell ⟨w18.heap.size, 0, none⟩ (.int .i8 rx)).setCell ⟨w18.heap.size, 1, none⟩ (.int .i8 ry)).setCell ⟨w18.heap.size, 2, none⟩ (.slice A19 nn cap19)) _ _ _ _ := H5.of_block (by simp) (blk3 (by omega))
          have G9 : Sq (((w19.setCell ⟨w18.heap.size, 0, none⟩ (.int .i8 rx)).setCell ⟨w18.heap.size, 1, none⟩ (.int .i8 ry)).setCell ⟨w18.heap.size, 2, none⟩ (.slice A19 nn cap19)) _ _ _ _ := H9.of_block (by simp) (blk3 (by omega))
          have GS5 := S5.kept (w' := (((w19.setCell ⟨w18.heap.size, 0, none⟩ (.int .i8 rx)).setCell ⟨w18.heap.size, 1, none⟩ (.int .i8 ry)).setCell ⟨w18.heap.size, 2, none⟩ (.slice A19 nn cap19))) (by simp) (fun h => blk3 (by have := (S5.2.1 h).2.2; have := nS5 h; omega))
          have GS9 := S9.kept (w' := (((w19.setCell ⟨w18.heap.size, 0, none⟩ (.int .i8 rx)).setCell ⟨w18.heap.size, 1, none⟩ (.int .i8 ry)).setCell ⟨w18.heap.size, 2, none⟩ (.slice A19 nn cap19))) (by simp) (fun h => blk3 (by have := (S9.2.1 h).2.2; have := nS9 h; omega))
          have GS19 := S19.kept (w' := (((w19.setCell ⟨w18.heap.size, 0, none⟩ (.int .i8 rx)).setCell ⟨w18.heap.size, 1, none⟩ (.int .i8 ry)).setCell ⟨w18.heap.size, 2, none⟩ (.slice A19 nn cap19))) (by simp) (fun h => blk3 (ng h))
          refine wpAnyH_ready (rs := [9]) (by kernel_rfl) (by simp) ?_
          refine AllReadyH.cons (o := _) rfl (fun K hK => ?_) AllReadyH.nil
          go_simp
          refine hK.out _ _ ⟨G2.2.1, G2.2.2.1, G2.2.2.2, G3.2.1, G3.2.2.1, G3.2.2.2.1, G3.2.2.2.2⟩ (fun hHeld => ?_)
          clear hK K
          try simp only [List.getElem_toArray, List.getElem_cons_zero, List.getElem_cons_succ, Act.put, List.setIfInBounds_toArray, List.set_cons_zero, List.set_cons_succ]
          refine wpAnyH_take (i := 10) (oi := _) (v := ?_) rfl (by kernel_rfl) (by kernel_rfl) (by kernel_rfl) (fun _ _ _ h => h) (Or.inl ⟨by kernel_rfl, ?_⟩) (by assumption) ?_
          rotate_left
          · intro w hSw; (try dsimp only at hSw); go_simp; first | done | with_reducible rfl
          try simp only [List.getElem_toArray, List.getElem_cons_zero, List.getElem_cons_succ, Act.put, List.setIfInBounds_toArray, List.set_cons_zero, List.set_cons_succ]
          refine wpAnyH_done (by kernel_rfl) ?_ _
          go_wp2_with fail
          go_meet
          exact ⟨_, A19, g19, cap19, _, rfl, rfl, B', G2, G3, G5, G9, GS5, GS9, ⟨GB.lt, GB.cells3.1, GB.cells3.2.1, GB.cells3.2.2⟩, GS19⟩
        · skip
          go_simp
          refine (HI.out _ g18 B.size R18).mono ?_
          rintro e w19 ⟨hb, v19, rfl, A19, g19, cap19, S19⟩
          obtain rfl := S19.1
          replace H2 := H2.below hb
          replace H3 := H3.below hb
          replace H5 := H5.below hb
          replace H9 := H9.below hb
          replace R18 := rowNext0 R18 hb
          replace S5 := S5.below hb
          replace S9 := S9.below hb
          replace B := nxt B hb
          clear hb l2 p2 q2 r2 l3 p3 q3 r3 s3 l5 p5 q5 r5 l9 p9 q9 r9
          obtain ⟨l2, p2, q2, r2⟩ := id H2
          obtain ⟨l3, p3, q3, r3, s3⟩ := id H3
          obtain ⟨l5, p5, q5, r5⟩ := id H5
          obtain ⟨l9, p9, q9, r9⟩ := id H9
          refine hK.out _ _ ⟨p2, q2, r2, p3, q3, r3, s3⟩ (fun hHeld => ?_)
          clear hK K
          try simp only [List.getElem_toArray, List.getElem_cons_zero, List.getElem_cons_succ, Act.put, List.setIfInBounds_toArray, List.set_cons_zero, List.set_cons_succ]
          refine wpAnyH_take (i := 5) (oi := _) (v := ?_) rfl (by kernel_rfl) (by kernel_rfl) (by kernel_rfl) (fun _ _ _ h => h) (Or.inl ⟨by kernel_rfl, ?_⟩) (by assumption) ?_
          rotate_left
          · intro w hSw; (try dsimp only at hSw); go_simp; first | done | with_reducible rfl
          try simp only [List.getElem_toArray, List.getElem_cons_zero, List.getElem_cons_succ, Act.put, List.setIfInBounds_toArray, List.set_cons_zero, List.set_cons_succ]
          refine wpAnyH_take (i := 6) (oi := _) (v := ?_) rfl (by kernel_rfl) (by kernel_rfl) (by kernel_rfl) (fun _ _ _ h => h) (Or.inl ⟨by kernel_rfl, ?_⟩) (by assumption) ?_
          rotate_left
          · intro w hSw; (try dsimp only at hSw); go_simp; first | done | with_reducible rfl
          try simp only [List.getElem_toArray, List.getElem_cons_zero, List.getElem_cons_succ, Act.put, List.setIfInBounds_toArray, List.set_cons_zero, List.set_cons_succ]
          refine wpAnyH_take (i := 7) (oi := _) (v := ?_) rfl (by kernel_rfl) (by kernel_rfl) (by kernel_rfl) (fun _ _ _ h => h) (Or.inl ⟨by kernel_rfl, ?_⟩) (by assumption) ?_
          rotate_left
          · intro w hSw; (try dsimp only at hSw); go_simp; first | done | with_reducible rfl
          try simp only [List.getElem_toArray, List.getElem_cons_zero, List.getElem_cons_succ, Act.put, List.setIfInBounds_toArray, List.set_cons_zero, List.set_cons_succ]
          refine wpAnyH_ready (rs := [8]) (by kernel_rfl) (by simp) ?_
          refine AllReadyH.cons (o := _) rfl (fun K hK => ?_) AllReadyH.nil
          go_simp
          have ng : 0 < nn → g19 ≠ w19.heap.size := fun h => by have := (S19.2.1 h).2.2; omega
          have nS5 : 0 < nn → g5 < w19.heap.size := fun h => (S5.2.1 h).2.2
          have nS9 : 0 < nn → g9 < w19.heap.size := fun h => (S9.2.1 h).2.2
          have HB := Bx.new w19 #[.int .i8 0, .int .i8 0, .slice none 0 0] 29
          replace H2 := H2.alloc (.cells #[.int .i8 0, .int .i8 0, .slice none 0 0] 29)
          replace H3 := H3.alloc (.cells #[.int .i8 0, .int .i8 0, .slice none 0 0] 29)
          replace H5 := H5.alloc (.cells #[.int .i8 0, .int .i8 0, .slice none 0 0] 29)
          replace H9 := H9.alloc (.cells #[.int .i8 0, .int .i8 0, .slice none 0 0] 29)
          replace R18 := R18.alloc (.cells #[.int .i8 0, .int .i8 0, .slice none 0 0] 29)
          replace S5 := S5.alloc (.cells #[.int .i8 0, .int .i8 0, .slice none 0 0] 29)
          replace S9 := S9.alloc (.cells #[.int .i8 0, .int .i8 0, .slice none 0 0] 29)
          replace S19 := S19.alloc (.cells #[.int .i8 0, .int .i8 0, .slice none 0 0] 29)
          have nb2 : w.heap.size < w19.heap.size := l2
          have nb3 : (w.heap.size + 1) < w19.heap.size := l3
          have nb5 : b5 < w19.heap.size := l5
          have nb9 : b9 < w19.heap.size := l9
          have nbw : w.heap.size ≤ w19.heap.size := B.size
          replace B := al B (.cells #[.int .i8 0, .int .i8 0, .slice none 0 0] 29)
          obtain ⟨wa4, hwa⟩ : ∃ wa4, w19.alloc (.cells #[.int .i8 0, .int .i8 0, .slice none 0 0] 29) = wa4 := ⟨_, rfl⟩
          rw [hwa] at HB B H2 H3 H5 H9 R18 S5 S9 S19 ⊢
          clear hwa l2 p2 q2 r2 l3 p3 q3 r3 s3 l5 p5 q5 r5 l9 p9 q9 r9
          obtain ⟨l2, p2, q2, r2⟩ := id H2
          obtain ⟨l3, p3, q3, r3, s3⟩ := id H3
          obtain ⟨l5, p5, q5, r5⟩ := id H5
          obtain ⟨l9, p9, q9, r9⟩ := id H9
          refine hK.out _ _ ⟨p2, q2, r2, p3, q3, r3, s3⟩ (fun hHeld => ?_)
          clear hK K
          try simp only [List.getElem_toArray, List.getElem_cons_zero, List.getElem_cons_succ, Act.put, List.setIfInBounds_toArray, List.set_cons_zero, List.set_cons_succ]
          obtain ⟨pB, qB, rB⟩ := HB.cells3
          have fB0 := HB.frozen 0
          have fB1 := HB.frozen 1
          have fB2 := HB.frozen 2
          have GB := HB.set3 (.int .i8 rx) (.int .i8 ry) (.slice A19 nn cap19)
          have B' := below_set3 (g := w19.heap.size) (v0 := .int .i8 rx) (v1 := .int .i8 ry) (v2 := .slice A19 nn cap19) B nbw
          have G2 : Sq (((wa4.setCell ⟨w19.heap.size, 0, none⟩ (.int .i8 rx)).setCell ⟨w19.heap.size, 1, none⟩ (.int .i8 ry)).setCell ⟨w19.heap.size, 2, none⟩ (.slice A19 nn cap19)) _ _ _ _ := H2.of_block (by simp) (blk3 (by omega))
          have G3 : Sl (((wa4.setCell ⟨w19.heap.size, 0, none⟩ (.int .i8 rx)).setCell ⟨w19.heap.size, 1, none⟩ (.int .i8 ry)).setCell ⟨w19.heap.size, 2, none⟩ (.slice A19 nn cap19)) _ _ _ _ _ := H3.of_block (by simp) (blk3 (by omega))
          have G5 : Sq (((wa4.setCell ⟨w19.heap.size, 0, none⟩ (.int .i8 rx)).setCell ⟨w19.heap.size, 1, none⟩ (.int .i8 ry)).setCell ⟨w19.heap.size, 2, none⟩ (.slice A19 nn cap19)) _ _ _ _ := H5.of_block (by simp) (blk3 (by omega))
          have G9 : Sq (((wa4.setCell ⟨w19.heap.size, 0, none⟩ (.int .i8 rx)).setCell ⟨w19.heap.size, 1, none⟩ (.int .i8 ry)).setCell ⟨w19.heap.size, 2, none⟩ (.slice A19 nn cap19)) _ _ _ _ := H9.of_block (by simp) (blk3 (by omega))
          have GS5 := S5.kept (w' := (((wa4.setCell ⟨w19.heap.size, 0, none⟩ (.int .i8 rx)).setCell ⟨w19.heap.size, 1, none⟩ (.int .i8 ry)).setCell ⟨w19.heap.size, 2, none⟩ (.slice A19 nn cap19))) (by simp) (fun h => blk3 (by have := (S5.2.1 h).2.2; have := nS5 h; omega))
          have GS9 := S9.kept (w' := (((wa4.setCell ⟨w19.heap.size, 0, none⟩ (.int .i8 rx)).setCell ⟨w19.heap.size, 1, none⟩ (.int .i8 ry)).setCell ⟨w19.heap.size, 2, none⟩ (.slice A19 nn cap19))) (by simp) (fun h => blk3 (by have := (S9.2.1 h).2.2; have := nS9 h; omega))
          have GS19 := S19.kept (w' := (((wa4.setCell ⟨w19.heap.size, 0, none⟩ (.int .i8 rx)).setCell ⟨w19.heap.size, 1, none⟩ (.int .i8 ry)).setCell ⟨w19.heap.size, 2, none⟩ (.slice A19 nn cap19))) (by simp) (fun h => blk3 (ng h))
          refine wpAnyH_ready (rs := [9]) (by kernel_rfl) (by simp) ?_
          refine AllReadyH.cons (o := _) rfl (fun K hK => ?_) AllReadyH.nil
          go_simp
          refine hK.out _ _ ⟨G2.2.1, G2.2.2.1, G2.2.2.2, G3.2.1, G3.2.2.1, G3.2.2.2.1, G3.2.2.2.2⟩ (fun hHeld => ?_)
          clear hK K
          try simp only [List.getElem_toArray, List.getElem_cons_zero, List.getElem_cons_succ, Act.put, List.setIfInBounds_toArray, List.set_cons_zero, List.set_cons_succ]
          refine wpAnyH_take (i := 10) (oi := _) (v := ?_) rfl (by kernel_rfl) (by kernel_rfl) (by kernel_rfl) (fun _ _ _ h => h) (Or.inl ⟨by kernel_rfl, ?_⟩) (by assumption) ?_
          rotate_left
          · intro w hSw; (try dsimp only at hSw); go_simp; first | done | with_reducible rfl
          try simp only [List.getElem_toArray, List.getElem_cons_zero, List.getElem_cons_succ, Act.put, List.setIfInBounds_toArray, List.set_cons_zero, List.set_cons_succ]
          refine wpAnyH_done (by kernel_rfl) ?_ _
          go_wp2_with fail
          go_meet
          exact ⟨_, A19, g19, cap19, _, rfl, rfl, B', G2, G3, G5, G9, GS5, GS9, ⟨GB.lt, GB.cells3.1, GB.cells3.2.1, GB.cells3.2.2⟩, GS19⟩
  clear B H2 H3 H5 H9 S5 S9 l2 p2 q2 r2 l3 p3 q3 r3 s3 l5 p5 q5 r5 l9 p9 q9 r9
  obtain ⟨b19, A19, g19, cap19, base19, rfl, rfl, B, H2, H3, H5, H9, S5, S9, H19, S19⟩ := hcut
  obtain ⟨V19, rfl⟩ : ∃ V : World, wc = V := ⟨_, rfl⟩
  obtain ⟨l2, p2, q2, r2⟩ := id H2
  obtain ⟨l3, p3, q3, r3, s3⟩ := id H3
  obtain ⟨l5, p5, q5, r5⟩ := id H5
  obtain ⟨l9, p9, q9, r9⟩ := id H9
  obtain ⟨l19, p19, q19, r19⟩ := id H19
  go_wp2_with fail
  refine (eqSq rx ry (by omega) S19 S5).mono ?_
  rintro e w20 ⟨rfl, hb⟩
  replace H2 := H2.below hb
  replace H3 := H3.below hb
  replace H5 := H5.below hb
  replace H9 := H9.below hb
  replace H19 := H19.below hb
  replace S5 := S5.below hb
  replace S9 := S9.below hb
  replace S19 := S19.below hb
  replace B := nxt B hb
  clear hb l2 p2 q2 r2 l3 p3 q3 r3 s3 l5 p5 q5 r5 l9 p9 q9 r9 l19 p19 q19 r19
  obtain ⟨l2, p2, q2, r2⟩ := id H2
  obtain ⟨l3, p3, q3, r3, s3⟩ := id H3
  obtain ⟨l5, p5, q5, r5⟩ := id H5
  obtain ⟨l9, p9, q9, r9⟩ := id H9
  obtain ⟨l19, p19, q19, r19⟩ := id H19
  go_wp2_with fail
  refine (heldSq rx ry (by omega) S9).mono ?_
  rintro e w21 ⟨rfl, hb⟩
  replace H2 := H2.below hb
  replace H3 := H3.below hb
  replace H5 := H5.below hb
  replace H9 := H9.below hb
  replace H19 := H19.below hb
  replace S5 := S5.below hb
  replace S9 := S9.below hb
  replace S19 := S19.below hb
  replace B := nxt B hb
  clear hb l2 p2 q2 r2 l3 p3 q3 r3 s3 l5 p5 q5 r5 l9 p9 q9 r9 l19 p19 q19 r19
  obtain ⟨l2, p2, q2, r2⟩ := id H2
  obtain ⟨l3, p3, q3, r3, s3⟩ := id H3
  obtain ⟨l5, p5, q5, r5⟩ := id H5
  obtain ⟨l9, p9, q9, r9⟩ := id H9
  obtain ⟨l19, p19, q19, r19⟩ := id H19
  go_wp2_with fail
  go_ret
  exact ⟨rfl, B⟩

theorem big (x y : Int) (A : Option Addr) (n ca : Nat) (a0 a1 a2 a3 : Int) (w : World) (hn : 1048576 < n) (hm : n ≤ 9223372036854775807) :
    Calls Try.prog 7 #[.agg #[.int .i8 x, .int .i8 y, .slice A n ca], .agg #[.int .i8 a0, .int .i8 a1, .int .i8 a2, .int .i8 a3]] w fun e w' => e = .returned (.bool true) ∧ Below w.heap.size w w' := by
  have B : Below w.heap.size w w := Below.refl _ _
  go_enter Try.func7, Try.ntmps7
  go_wp2_with fail
  refine (szSquare_big x y 1048576 A n ca _ (by omega) (by omega) (by omega) hm).mono ?_
  rintro e w1 ⟨rfl, hb⟩
  replace B := nxt (al (al B _) _) hb
  clear hb
  go_wp2_with fail
  go_ret
  exact ⟨rfl, B⟩

theorem walk (x y : Int) (A : Option Addr) (n ca : Nat) (c : Nat → Int) (a0 a1 a2 a3 : Int) (w : World) (hX : -128 ≤ x ∧ x ≤ 127) (hY : -128 ≤ y ∧ y ≤ 127) (hc : ∀ j, -128 ≤ c j ∧ c j ≤ 127) (ba0 : -128 ≤ a0 ∧ a0 ≤ 127) (ba1 : -128 ≤ a1 ∧ a1 ≤ 127) (ba2 : -128 ≤ a2 ∧ a2 ≤ 127) (ba3 : -128 ≤ a3 ∧ a3 ≤ 127) (hn0 : n ≤ 9223372036854775807)
    (hr : Rd8 w w.heap.size A (4 * n) c) :
    Calls Try.prog 7 #[.agg #[.int .i8 x, .int .i8 y, .slice A n ca], .agg #[.int .i8 a0, .int .i8 a1, .int .i8 a2, .int .i8 a3]] w fun e w' => e = .returned (.bool true) ∧ Below w.heap.size w w' := by
  by_cases hn : 1048576 < n
  · exact big x y A n ca a0 a1 a2 a3 w hn hn0
  obtain ⟨rx, ry, z1, nn, ff, hnn, hS, hI⟩ := both x y n c a0 a1 a2 a3 hX hY hc ba0 ba1 ba2 ba3 (by omega)
  exact law x y A n ca c a0 a1 a2 a3 rx ry z1 nn ff w (by omega) hnn hr (fun W g _ R => hS W g R) (fun W g _ R => hI W g R)

theorem lifted (os : Os) (started : os.Started) (H : Type) (enc : TypeId × Value → H) :
    ReturnsInHanded {} Try.checked os 7 .any (Rows.fnExactCutSquareSpec.pre6 enc Try.prog Try.f7 Rows.fnExactCutSquareRow.domain false) (Rows.fnExactCutSquareSpec.post enc Try.prog Try.f7 false true false false) := by
  refine returnsInHanded_of_change (C := Try.checked) own started (by kernel_rfl) Try.func7
    (ChangeSpec.witness6 (enc := enc) (C := Try.checked) false ⟨#[], #[.agg #[.int .i8 0, .int .i8 0, .slice none 0 0], .agg #[.int .i8 0, .int .i8 0, .int .i8 0, .int .i8 0]], []⟩ 8 (by kernel_rfl) (by kernel_rfl) (by kernel_rfl) (by kernel_rfl)) ?_
  intro W base args ds gs before hval0 hW hcnd _
  have hval : ∀ (j : Nat) t v, Try.f7.params[j]? = some t → args[j]? = some v → Value.okWide Try.prog W .any base t v := hval0
  have hW' := hW
  obtain ⟨p, q, hA0, hV, rfl, hfz, hnd⟩ := hW
  have hA : DataW.TrodAll enc Try.prog W 0 (fun _ => true) true Try.f7.params.toList args.toList ds p := hA0
  rw [Try.params7] at hA hval
  obtain ⟨v0, v1, d0, d1, p0, p1, rfl, rfl, rfl, h0, h1⟩ := trodAll_two hA
  obtain ⟨rfl, rfl⟩ := trodVars_none hV
  obtain ⟨x, y, A, n, ca, c, rfl, hX, hY, hn, hr, hc⟩ := open_square (hval 0 25 v0 rfl rfl) h0
  obtain ⟨a0, a1, a2, a3, rfl, ba0, ba1, ba2, ba3⟩ := open_slab (hval 1 39 v1 rfl rfl) h1
  unfold maxLen at hn
  refine (walk x y A n ca c a0 a1 a2 a3 W hX hY hc ba0 ba1 ba2 ba3 hn hr).mono fun e W' ⟨he, hb⟩ => ?_
  subst he
  exact ⟨_, rfl, law_post (tb := 4) laidOut (by rw [Try.params7]; intro t ht; simp at ht; rcases ht with rfl | rfl <;> exact ⟨by kernel_rfl, by decide +kernel⟩) (by kernel_rfl) Try.underlying4 rfl hW' rfl hb⟩

theorem proved : Rows.FnExactCutSquareSaid :=
  OpenClaim.holds_of_wide 7 Try.f7 rfl rfl rfl rfl rfl rfl rfl ⟨rfl, rfl, rfl, rfl, rfl⟩ rfl rfl rfl rfl rfl (by kernel_rfl) Try.func7 (by kernel_rfl)
    (of_decide_eq_true (by kernel_rfl)) (by unfold Func.isWrapper; rw [if_neg (of_decide_eq_false (by kernel_rfl))]; exact ⟨rfl, rfl⟩)
    (fun os started H enc _ => lifted os started H enc)
#print axioms proved
end Go.Proofs.Yteebkookoidheaa.cutSquare
