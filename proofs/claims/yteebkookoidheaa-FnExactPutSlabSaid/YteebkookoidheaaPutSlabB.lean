/-
  Both sides of PutSlab answer the same. Conditions stand at each.
-/
import Derived.Test.YteebkookoidheaaRows
import Derived.Test.YteebkookoidheaaPutS
namespace Go.Proofs.Yteebkookoidheaa.putSlab
open Go Go.ChangeShapes Go.WideShapes Go.ChangeAt Go.RowKit Go.Proofs.Yteebkookoidheaa.canPut
set_option linter.unusedVariables false
set_option linter.unusedSimpArgs false
set_option maxRecDepth 100000
set_option maxHeartbeats 2000000

theorem apart_c {X Y : Int} {n : Nat} {c : Nat → Int} (hv : Valid X Y n c) : Apart (toL c n) := by
  unfold toL
  refine apart_map hv fun i j hi hj hne => ?_
  obtain ⟨h1, h2⟩ := hne
  obtain ⟨x1, y1, a1, b1, e0, e1, e2, e3, l1, l2⟩ := lies_nat hv.2.1 hv.2.2.2.1 (hv.2.2.2.2.2 i hi).1
  obtain ⟨x2, y2, a2, b2, k0, k1, k2, k3, m1, m2⟩ := lies_nat hv.2.1 hv.2.2.2.1 (hv.2.2.2.2.2 j hj).1
  have p1 := (hv.2.2.2.2.2 i hi).1
  have p2 := (hv.2.2.2.2.2 j hj).1
  unfold lies at p1 p2
  simp only [s4] at h1 h2
  rw [e0, e1, e2, e3] at p1
  rw [k0, k1, k2, k3] at p2
  rw [e0, k0] at h1
  rw [e1, k1] at h2
  refine ⟨y1 * 12 + x1, by omega, ?_, ?_⟩
  · unfold cov; rw [e0, e1, e2, e3]; omega
  · unfold cov; rw [k0, k1, k2, k3]; omega
theorem apart_put {X Y : Int} {n : Nat} {c : Nat → Int} {x0 y0 wd ht : Nat} (hv : Valid X Y n c) (hx : x0 + wd ≤ 12) (hy : y0 + ht ≤ 12) (hw : 1 ≤ wd) (hh : 1 ≤ ht)
    (ho : opn (ext c n (x0 : Int) y0 wd ht) n) : Apart (putL c n ((x0 : Int), (y0 : Int), (wd : Int), (ht : Int))) := by
  unfold putL Apart
  rw [List.pairwise_append]
  refine ⟨apart_c hv, List.pairwise_singleton _ _, ?_⟩
  intro a ha b hb
  obtain rfl := List.mem_singleton.1 hb
  unfold toL at ha
  obtain ⟨i, hi, rfl⟩ := List.mem_map.1 ha
  rw [List.mem_range] at hi
  rintro ⟨h1, h2⟩
  obtain ⟨x1, y1, a1, b1, e0, e1, e2, e3, l1, l2⟩ := lies_nat hv.2.1 hv.2.2.2.1 (hv.2.2.2.2.2 i hi).1
  have p1 := (hv.2.2.2.2.2 i hi).1
  unfold lies at p1
  simp only [s4] at h1 h2
  rw [e0, e1, e2, e3] at p1
  rw [e0] at h1
  rw [e1] at h2
  have hc : cov c i (y0 * 12 + x0) := by unfold cov; rw [e0, e1, e2, e3]; omega
  have hg := ho (y0 * 12 + x0) (by omega) (by unfold cov; rw [ext0, ext1, ext2, ext3]; omega)
  rw [gridN_ext] at hg
  exact grid_of_cov hc n hi hg
theorem impl_bad (X Y : Int) (g n : Nat) (c : Nat → Int) (a0 a1 a2 a3 : Int) (w : World) (hX : -128 ≤ X ∧ X ≤ 127) (hY : -128 ≤ Y ∧ Y ≤ 127) (hc : ∀ j, -128 ≤ c j ∧ c j ≤ 127) (hm : n ≤ 1048576) (hrow : w.rowIs g 31 (4 * n) (fun j => .int .i8 (c j))) (hcan : ∀ W : World, W.rowIs g 31 (4 * n) (fun j => .int .i8 (c j)) → Calls Try.prog 72 #[.agg #[.int .i8 X, .int .i8 Y, .slice (some ⟨g, 0, none⟩) n n], .agg #[.int .i8 a0, .int .i8 a1, .int .i8 a2, .int .i8 a3]] W fun e w' => e = .returned (.tuple #[.bool false, .int .i64 1]) ∧ Below W.heap.size W w') :
    Calls Try.prog 25 #[.agg #[.int .i8 X, .int .i8 Y, .slice (some ⟨g, 0, none⟩) n n], .agg #[.int .i8 a0, .int .i8 a1, .int .i8 a2, .int .i8 a3]] w fun e w' => Below w.heap.size w w' ∧ ∃ v, e = .returned (.tuple #[.agg #[.int .i8 0, .int .i8 0, v], .int .i64 1]) ∧ HasSlice .i8 4 w' w.heap.size v 0 (fL []) := by
  have HCAN := Lib.hid hcan
  clear hcan
  go_enter Try.func25, Try.ntmps25
  go_wp2_with fail
  have HQ := ((Sq.new w X Y (.slice (some ⟨g, 0, none⟩) n n) 29).alloc (.cells #[.int .i8 a0, .int .i8 a1, .int .i8 a2, .int .i8 a3] 31)).alloc (.cells #[.int .i8 0, .int .i8 0, .slice none 0 0] 29)
  have H3 : Sl (((w.alloc (.cells #[.int .i8 X, .int .i8 Y, .slice (some ⟨g, 0, none⟩) n n] 29)).alloc (.cells #[.int .i8 a0, .int .i8 a1, .int .i8 a2, .int .i8 a3] 31)).alloc (.cells #[.int .i8 0, .int .i8 0, .slice none 0 0] 29)) (w.heap.size + 1) a0 a1 a2 a3 := by
    have := (Sl.new (w.alloc (.cells #[.int .i8 X, .int .i8 Y, .slice (some ⟨g, 0, none⟩) n n] 29)) a0 a1 a2 a3 31).alloc (.cells #[.int .i8 0, .int .i8 0, .slice none 0 0] 29)
    rwa [World.size_alloc] at this
  have H1 : Bx (((w.alloc (.cells #[.int .i8 X, .int .i8 Y, .slice (some ⟨g, 0, none⟩) n n] 29)).alloc (.cells #[.int .i8 a0, .int .i8 a1, .int .i8 a2, .int .i8 a3] 31)).alloc (.cells #[.int .i8 0, .int .i8 0, .slice none 0 0] 29)) (w.heap.size + 2) #[.int .i8 0, .int .i8 0, .slice none 0 0] 29 := by
    have := Bx.new ((w.alloc (.cells #[.int .i8 X, .int .i8 Y, .slice (some ⟨g, 0, none⟩) n n] 29)).alloc (.cells #[.int .i8 a0, .int .i8 a1, .int .i8 a2, .int .i8 a3] 31)) #[.int .i8 0, .int .i8 0, .slice none 0 0] 29
    rwa [World.size_alloc, World.size_alloc] at this
  have B := al (al (al (Below.refl w.heap.size w) (.cells #[.int .i8 X, .int .i8 Y, .slice (some ⟨g, 0, none⟩) n n] 29)) (.cells #[.int .i8 a0, .int .i8 a1, .int .i8 a2, .int .i8 a3] 31)) (.cells #[.int .i8 0, .int .i8 0, .slice none 0 0] 29)
  obtain ⟨W0, hW0⟩ : ∃ W0 : World, W0 = (((w.alloc (.cells #[.int .i8 X, .int .i8 Y, .slice (some ⟨g, 0, none⟩) n n] 29)).alloc (.cells #[.int .i8 a0, .int .i8 a1, .int .i8 a2, .int .i8 a3] 31)).alloc (.cells #[.int .i8 0, .int .i8 0, .slice none 0 0] 29)) := ⟨_, rfl⟩
  rw [← hW0] at HQ H3 H1 B ⊢
  clear hW0
  obtain ⟨lq, pq, qq, rq⟩ := id HQ
  obtain ⟨l3, p3, q3, r3, s3⟩ := id H3
  go_wp2_with fail
  refine (HCAN.out _ (hrow.of_block (B.block _ hrow.lt))).mono ?_
  rintro e w1 ⟨rfl, hb⟩
  clear lq pq qq rq l3 p3 q3 r3 s3
  replace HQ := HQ.below hb
  replace H3 := H3.below hb
  replace H1 := H1.below hb
  replace B := nxt B hb
  clear hb
  obtain ⟨lq, pq, qq, rq⟩ := id HQ
  obtain ⟨l3, p3, q3, r3, s3⟩ := id H3
  obtain ⟨p1, q1, r1⟩ := H1.cells3
  have f10 := H1.frozen 0
  have f11 := H1.frozen 1
  have f12 := H1.frozen 2
  go_wp2_with fail
  have F1 := H1.set3 (.int .i8 0) (.int .i8 0) (.slice none 0 0)
  have B3 := below_set3 (g := w.heap.size + 2) (v0 := .int .i8 0) (v1 := .int .i8 0) (v2 := .slice none 0 0) B (by omega)
  obtain ⟨x1, y1, z1⟩ := F1.cells3
  refine bodyPost_ret (v := .tuple #[.agg #[.int .i8 0, .int .i8 0, .slice none 0 0], .int .i64 1]) (by simp [results, Try.results25, go_sem, x1, y1, z1]) rfl ⟨B3, _, rfl, ⟨none, 0, 0, rfl, fun h => absurd h (by omega), fun j hj => absurd hj (by omega)⟩⟩
theorem impl_no (X Y : Int) (g n : Nat) (c : Nat → Int) (a0 a1 a2 a3 : Int) (w : World) (hX : -128 ≤ X ∧ X ≤ 127) (hY : -128 ≤ Y ∧ Y ≤ 127) (hc : ∀ j, -128 ≤ c j ∧ c j ≤ 127) (hm : n ≤ 1048576) (hrow : w.rowIs g 31 (4 * n) (fun j => .int .i8 (c j))) (hcan : ∀ W : World, W.rowIs g 31 (4 * n) (fun j => .int .i8 (c j)) → Calls Try.prog 72 #[.agg #[.int .i8 X, .int .i8 Y, .slice (some ⟨g, 0, none⟩) n n], .agg #[.int .i8 a0, .int .i8 a1, .int .i8 a2, .int .i8 a3]] W fun e w' => e = .returned (.tuple #[.bool false, .int .i64 0]) ∧ Below W.heap.size W w') :
    Calls Try.prog 25 #[.agg #[.int .i8 X, .int .i8 Y, .slice (some ⟨g, 0, none⟩) n n], .agg #[.int .i8 a0, .int .i8 a1, .int .i8 a2, .int .i8 a3]] w fun e w' => Below w.heap.size w w' ∧ ∃ v, e = .returned (.tuple #[.agg #[.int .i8 0, .int .i8 0, v], .int .i64 4]) ∧ HasSlice .i8 4 w' w.heap.size v 0 (fL []) := by
  have HCAN := Lib.hid hcan
  clear hcan
  go_enter Try.func25, Try.ntmps25
  go_wp2_with fail
  have HQ := ((Sq.new w X Y (.slice (some ⟨g, 0, none⟩) n n) 29).alloc (.cells #[.int .i8 a0, .int .i8 a1, .int .i8 a2, .int .i8 a3] 31)).alloc (.cells #[.int .i8 0, .int .i8 0, .slice none 0 0] 29)
  have H3 : Sl (((w.alloc (.cells #[.int .i8 X, .int .i8 Y, .slice (some ⟨g, 0, none⟩) n n] 29)).alloc (.cells #[.int .i8 a0, .int .i8 a1, .int .i8 a2, .int .i8 a3] 31)).alloc (.cells #[.int .i8 0, .int .i8 0, .slice none 0 0] 29)) (w.heap.size + 1) a0 a1 a2 a3 := by
    have := (Sl.new (w.alloc (.cells #[.int .i8 X, .int .i8 Y, .slice (some ⟨g, 0, none⟩) n n] 29)) a0 a1 a2 a3 31).alloc (.cells #[.int .i8 0, .int .i8 0, .slice none 0 0] 29)
    rwa [World.size_alloc] at this
  have H1 : Bx (((w.alloc (.cells #[.int .i8 X, .int .i8 Y, .slice (some ⟨g, 0, none⟩) n n] 29)).alloc (.cells #[.int .i8 a0, .int .i8 a1, .int .i8 a2, .int .i8 a3] 31)).alloc (.cells #[.int .i8 0, .int .i8 0, .slice none 0 0] 29)) (w.heap.size + 2) #[.int .i8 0, .int .i8 0, .slice none 0 0] 29 := by
    have := Bx.new ((w.alloc (.cells #[.int .i8 X, .int .i8 Y, .slice (some ⟨g, 0, none⟩) n n] 29)).alloc (.cells #[.int .i8 a0, .int .i8 a1, .int .i8 a2, .int .i8 a3] 31)) #[.int .i8 0, .int .i8 0, .slice none 0 0] 29
    rwa [World.size_alloc, World.size_alloc] at this
  have B := al (al (al (Below.refl w.heap.size w) (.cells #[.int .i8 X, .int .i8 Y, .slice (some ⟨g, 0, none⟩) n n] 29)) (.cells #[.int .i8 a0, .int .i8 a1, .int .i8 a2, .int .i8 a3] 31)) (.cells #[.int .i8 0, .int .i8 0, .slice none 0 0] 29)
  obtain ⟨W0, hW0⟩ : ∃ W0 : World, W0 = (((w.alloc (.cells #[.int .i8 X, .int .i8 Y, .slice (some ⟨g, 0, none⟩) n n] 29)).alloc (.cells #[.int .i8 a0, .int .i8 a1, .int .i8 a2, .int .i8 a3] 31)).alloc (.cells #[.int .i8 0, .int .i8 0, .slice none 0 0] 29)) := ⟨_, rfl⟩
  rw [← hW0] at HQ H3 H1 B ⊢
  clear hW0
  obtain ⟨lq, pq, qq, rq⟩ := id HQ
  obtain ⟨l3, p3, q3, r3, s3⟩ := id H3
  go_wp2_with fail
  refine (HCAN.out _ (hrow.of_block (B.block _ hrow.lt))).mono ?_
  rintro e w1 ⟨rfl, hb⟩
  clear lq pq qq rq l3 p3 q3 r3 s3
  replace HQ := HQ.below hb
  replace H3 := H3.below hb
  replace H1 := H1.below hb
  replace B := nxt B hb
  clear hb
  obtain ⟨lq, pq, qq, rq⟩ := id HQ
  obtain ⟨l3, p3, q3, r3, s3⟩ := id H3
  obtain ⟨p1, q1, r1⟩ := H1.cells3
  have f10 := H1.frozen 0
  have f11 := H1.frozen 1
  have f12 := H1.frozen 2
  go_wp2_with fail
  have F1 := H1.set3 (.int .i8 0) (.int .i8 0) (.slice none 0 0)
  have B3 := below_set3 (g := w.heap.size + 2) (v0 := .int .i8 0) (v1 := .int .i8 0) (v2 := .slice none 0 0) B (by omega)
  obtain ⟨x1, y1, z1⟩ := F1.cells3
  refine bodyPost_ret (v := .tuple #[.agg #[.int .i8 0, .int .i8 0, .slice none 0 0], .int .i64 4]) (by simp [results, Try.results25, go_sem, x1, y1, z1]) rfl ⟨B3, _, rfl, ⟨none, 0, 0, rfl, fun h => absurd h (by omega), fun j hj => absurd hj (by omega)⟩⟩
theorem impl_full (X Y : Int) (g n : Nat) (c : Nat → Int) (a0 a1 a2 a3 : Int) (w : World) (hX : -128 ≤ X ∧ X ≤ 127) (hY : -128 ≤ Y ∧ Y ≤ 127) (hc : ∀ j, -128 ≤ c j ∧ c j ≤ 127) (hm : n ≤ 1048576) (hrow : w.rowIs g 31 (4 * n) (fun j => .int .i8 (c j))) (hcan : ∀ W : World, W.rowIs g 31 (4 * n) (fun j => .int .i8 (c j)) → Calls Try.prog 72 #[.agg #[.int .i8 X, .int .i8 Y, .slice (some ⟨g, 0, none⟩) n n], .agg #[.int .i8 a0, .int .i8 a1, .int .i8 a2, .int .i8 a3]] W fun e w' => e = .returned (.tuple #[.bool true, .int .i64 0]) ∧ Below W.heap.size W w') (h60 : n = 60) :
    Calls Try.prog 25 #[.agg #[.int .i8 X, .int .i8 Y, .slice (some ⟨g, 0, none⟩) n n], .agg #[.int .i8 a0, .int .i8 a1, .int .i8 a2, .int .i8 a3]] w fun e w' => Below w.heap.size w w' ∧ ∃ v, e = .returned (.tuple #[.agg #[.int .i8 0, .int .i8 0, v], .int .i64 3]) ∧ HasSlice .i8 4 w' w.heap.size v 0 (fL []) := by
  have H60 := Lib.hid h60
  clear h60
  have HCAN := Lib.hid hcan
  clear hcan
  go_enter Try.func25, Try.ntmps25
  go_wp2_with fail
  have HQ := ((Sq.new w X Y (.slice (some ⟨g, 0, none⟩) n n) 29).alloc (.cells #[.int .i8 a0, .int .i8 a1, .int .i8 a2, .int .i8 a3] 31)).alloc (.cells #[.int .i8 0, .int .i8 0, .slice none 0 0] 29)
  have H3 : Sl (((w.alloc (.cells #[.int .i8 X, .int .i8 Y, .slice (some ⟨g, 0, none⟩) n n] 29)).alloc (.cells #[.int .i8 a0, .int .i8 a1, .int .i8 a2, .int .i8 a3] 31)).alloc (.cells #[.int .i8 0, .int .i8 0, .slice none 0 0] 29)) (w.heap.size + 1) a0 a1 a2 a3 := by
    have := (Sl.new (w.alloc (.cells #[.int .i8 X, .int .i8 Y, .slice (some ⟨g, 0, none⟩) n n] 29)) a0 a1 a2 a3 31).alloc (.cells #[.int .i8 0, .int .i8 0, .slice none 0 0] 29)
    rwa [World.size_alloc] at this
  have H1 : Bx (((w.alloc (.cells #[.int .i8 X, .int .i8 Y, .slice (some ⟨g, 0, none⟩) n n] 29)).alloc (.cells #[.int .i8 a0, .int .i8 a1, .int .i8 a2, .int .i8 a3] 31)).alloc (.cells #[.int .i8 0, .int .i8 0, .slice none 0 0] 29)) (w.heap.size + 2) #[.int .i8 0, .int .i8 0, .slice none 0 0] 29 := by
    have := Bx.new ((w.alloc (.cells #[.int .i8 X, .int .i8 Y, .slice (some ⟨g, 0, none⟩) n n] 29)).alloc (.cells #[.int .i8 a0, .int .i8 a1, .int .i8 a2, .int .i8 a3] 31)) #[.int .i8 0, .int .i8 0, .slice none 0 0] 29
    rwa [World.size_alloc, World.size_alloc] at this
  have B := al (al (al (Below.refl w.heap.size w) (.cells #[.int .i8 X, .int .i8 Y, .slice (some ⟨g, 0, none⟩) n n] 29)) (.cells #[.int .i8 a0, .int .i8 a1, .int .i8 a2, .int .i8 a3] 31)) (.cells #[.int .i8 0, .int .i8 0, .slice none 0 0] 29)
  obtain ⟨W0, hW0⟩ : ∃ W0 : World, W0 = (((w.alloc (.cells #[.int .i8 X, .int .i8 Y, .slice (some ⟨g, 0, none⟩) n n] 29)).alloc (.cells #[.int .i8 a0, .int .i8 a1, .int .i8 a2, .int .i8 a3] 31)).alloc (.cells #[.int .i8 0, .int .i8 0, .slice none 0 0] 29)) := ⟨_, rfl⟩
  rw [← hW0] at HQ H3 H1 B ⊢
  clear hW0
  obtain ⟨lq, pq, qq, rq⟩ := id HQ
  obtain ⟨l3, p3, q3, r3, s3⟩ := id H3
  go_wp2_with fail
  refine (HCAN.out _ (hrow.of_block (B.block _ hrow.lt))).mono ?_
  rintro e w1 ⟨rfl, hb⟩
  clear lq pq qq rq l3 p3 q3 r3 s3
  replace HQ := HQ.below hb
  replace H3 := H3.below hb
  replace H1 := H1.below hb
  replace B := nxt B hb
  clear hb
  obtain ⟨lq, pq, qq, rq⟩ := id HQ
  obtain ⟨l3, p3, q3, r3, s3⟩ := id H3
  have e60 : ((n : Int) == 60) = true := by have := H60.out; simp; omega
  have d60 : decide ((n : Int) = 60) = true := by have := H60.out; simp; omega
  obtain ⟨p1, q1, r1⟩ := H1.cells3
  have f10 := H1.frozen 0
  have f11 := H1.frozen 1
  have f12 := H1.frozen 2
  go_wp2_with fail
  have F1 := H1.set3 (.int .i8 0) (.int .i8 0) (.slice none 0 0)
  have B3 := below_set3 (g := w.heap.size + 2) (v0 := .int .i8 0) (v1 := .int .i8 0) (v2 := .slice none 0 0) B (by omega)
  obtain ⟨x1, y1, z1⟩ := F1.cells3
  refine bodyPost_ret (v := .tuple #[.agg #[.int .i8 0, .int .i8 0, .slice none 0 0], .int .i64 3]) (by simp [results, Try.results25, go_sem, x1, y1, z1]) rfl ⟨B3, _, rfl, ⟨none, 0, 0, rfl, fun h => absurd h (by omega), fun j hj => absurd hj (by omega)⟩⟩
theorem impl_in (X Y : Int) (g n : Nat) (c : Nat → Int) (a0 a1 a2 a3 : Int) (w : World) (hX : -128 ≤ X ∧ X ≤ 127) (hY : -128 ≤ Y ∧ Y ≤ 127) (hc : ∀ j, -128 ≤ c j ∧ c j ≤ 127) (hm : n ≤ 1048576) (hrow : w.rowIs g 31 (4 * n) (fun j => .int .i8 (c j))) (hcan : ∀ W : World, W.rowIs g 31 (4 * n) (fun j => .int .i8 (c j)) → Calls Try.prog 72 #[.agg #[.int .i8 X, .int .i8 Y, .slice (some ⟨g, 0, none⟩) n n], .agg #[.int .i8 a0, .int .i8 a1, .int .i8 a2, .int .i8 a3]] W fun e w' => e = .returned (.tuple #[.bool true, .int .i64 0]) ∧ Below W.heap.size W w') (h60 : n < 60) :
    Calls Try.prog 25 #[.agg #[.int .i8 X, .int .i8 Y, .slice (some ⟨g, 0, none⟩) n n], .agg #[.int .i8 a0, .int .i8 a1, .int .i8 a2, .int .i8 a3]] w fun e w' => Below w.heap.size w w' ∧ ∃ v L, e = .returned (.tuple #[.agg #[.int .i8 X, .int .i8 Y, v], .int .i64 0]) ∧ SortedOf (putL c n (a0, a1, a2, a3)) L ∧ HasSlice .i8 4 w' w.heap.size v (n + 1) (fL L) := by
  obtain ⟨i0, hi0, hz0, hz1, hz2⟩ := info_parts infoSlab
  have HI := Lib.hid hi0
  clear hi0
  have HCAN := Lib.hid hcan
  clear hcan
  go_enter Try.func25, Try.ntmps25
  go_wp2_with fail
  have HQ := ((Sq.new w X Y (.slice (some ⟨g, 0, none⟩) n n) 29).alloc (.cells #[.int .i8 a0, .int .i8 a1, .int .i8 a2, .int .i8 a3] 31)).alloc (.cells #[.int .i8 0, .int .i8 0, .slice none 0 0] 29)
  have H3 : Sl (((w.alloc (.cells #[.int .i8 X, .int .i8 Y, .slice (some ⟨g, 0, none⟩) n n] 29)).alloc (.cells #[.int .i8 a0, .int .i8 a1, .int .i8 a2, .int .i8 a3] 31)).alloc (.cells #[.int .i8 0, .int .i8 0, .slice none 0 0] 29)) (w.heap.size + 1) a0 a1 a2 a3 := by
    have := (Sl.new (w.alloc (.cells #[.int .i8 X, .int .i8 Y, .slice (some ⟨g, 0, none⟩) n n] 29)) a0 a1 a2 a3 31).alloc (.cells #[.int .i8 0, .int .i8 0, .slice none 0 0] 29)
    rwa [World.size_alloc] at this
  have H1 : Bx (((w.alloc (.cells #[.int .i8 X, .int .i8 Y, .slice (some ⟨g, 0, none⟩) n n] 29)).alloc (.cells #[.int .i8 a0, .int .i8 a1, .int .i8 a2, .int .i8 a3] 31)).alloc (.cells #[.int .i8 0, .int .i8 0, .slice none 0 0] 29)) (w.heap.size + 2) #[.int .i8 0, .int .i8 0, .slice none 0 0] 29 := by
    have := Bx.new ((w.alloc (.cells #[.int .i8 X, .int .i8 Y, .slice (some ⟨g, 0, none⟩) n n] 29)).alloc (.cells #[.int .i8 a0, .int .i8 a1, .int .i8 a2, .int .i8 a3] 31)) #[.int .i8 0, .int .i8 0, .slice none 0 0] 29
    rwa [World.size_alloc, World.size_alloc] at this
  have B := al (al (al (Below.refl w.heap.size w) (.cells #[.int .i8 X, .int .i8 Y, .slice (some ⟨g, 0, none⟩) n n] 29)) (.cells #[.int .i8 a0, .int .i8 a1, .int .i8 a2, .int .i8 a3] 31)) (.cells #[.int .i8 0, .int .i8 0, .slice none 0 0] 29)
  obtain ⟨W0, hW0⟩ : ∃ W0 : World, W0 = (((w.alloc (.cells #[.int .i8 X, .int .i8 Y, .slice (some ⟨g, 0, none⟩) n n] 29)).alloc (.cells #[.int .i8 a0, .int .i8 a1, .int .i8 a2, .int .i8 a3] 31)).alloc (.cells #[.int .i8 0, .int .i8 0, .slice none 0 0] 29)) := ⟨_, rfl⟩
  rw [← hW0] at HQ H3 H1 B ⊢
  clear hW0
  obtain ⟨lq, pq, qq, rq⟩ := id HQ
  obtain ⟨l3, p3, q3, r3, s3⟩ := id H3
  go_wp2_with fail
  refine (HCAN.out _ (hrow.of_block (B.block _ hrow.lt))).mono ?_
  rintro e w1 ⟨rfl, hb⟩
  clear lq pq qq rq l3 p3 q3 r3 s3
  replace HQ := HQ.below hb
  replace H3 := H3.below hb
  replace H1 := H1.below hb
  replace B := nxt B hb
  clear hb
  obtain ⟨lq, pq, qq, rq⟩ := id HQ
  obtain ⟨l3, p3, q3, r3, s3⟩ := id H3
  have e60 : ((n : Int) == 60) = false := by simp; omega
  have d60 : decide ((n : Int) = 60) = false := by simp; omega
  have hz : w.heap.size + 3 ≤ w1.heap.size := H1.lt
  go_wp2_with fail
  replace B := B.drew
  replace HQ : Sq w1.drew w.heap.size X Y (.slice (some ⟨g, 0, none⟩) n n) := HQ
  replace H3 : Sl w1.drew (w.heap.size + 1) a0 a1 a2 a3 := H3
  replace H1 : Bx w1.drew (w.heap.size + 2) #[.int .i8 0, .int .i8 0, .slice none 0 0] 29 := H1
  replace hz : w.heap.size + 3 ≤ w1.drew.heap.size := hz
  clear lq pq qq rq l3 p3 q3 r3 s3 e60 d60
  obtain ⟨lq, pq, qq, rq⟩ := id HQ
  obtain ⟨l3, p3, q3, r3, s3⟩ := id H3
  refine wp_region_held_drew (S := (fun w' => w'.cell? ⟨w.heap.size, 0, none⟩ = some (.int .i8 X) ∧ w'.cell? ⟨w.heap.size, 1, none⟩ = some (.int .i8 Y) ∧ w'.cell? ⟨w.heap.size, 2, none⟩ = some (.slice (some ⟨g, 0, none⟩) n n) ∧ w'.cell? ⟨w.heap.size + 1, 0, none⟩ = some (.int .i8 a0) ∧ w'.cell? ⟨w.heap.size + 1, 1, none⟩ = some (.int .i8 a1) ∧ w'.cell? ⟨w.heap.size + 1, 2, none⟩ = some (.int .i8 a2) ∧ w'.cell? ⟨w.heap.size + 1, 3, none⟩ = some (.int .i8 a3))) (by kernel_rfl) ⟨pq, qq, rq, p3, q3, r3, s3⟩ (fun hHeld => ?_)
  obtain ⟨w0, hw0⟩ : ∃ w0, w1.drew = w0 := ⟨_, rfl⟩
  rw [hw0] at hHeld B HQ H3 H1 hz lq pq qq rq l3 p3 q3 r3 s3 ⊢
  clear hw0
  refine wpAnyH_take (i := 0) (oi := _) (v := ?_) rfl (by kernel_rfl) (by kernel_rfl) (by kernel_rfl) (fun _ _ _ h => h) (Or.inl ⟨by kernel_rfl, ?_⟩) (by assumption) ?_
  rotate_left
  · intro w hSw; (try dsimp only at hSw); go_simp; first | done | with_reducible rfl
  try simp only [List.getElem_toArray, List.getElem_cons_zero, List.getElem_cons_succ, Act.put, List.setIfInBounds_toArray, List.set_cons_zero, List.set_cons_succ]
  refine wpAnyH_take (i := 1) (oi := _) (v := ?_) rfl (by kernel_rfl) (by kernel_rfl) (by kernel_rfl) (fun _ _ _ h => h) (Or.inl ⟨by kernel_rfl, ?_⟩) (by assumption) ?_
  rotate_left
  · intro w hSw; (try dsimp only at hSw); go_simp; first | done | with_reducible rfl
  try simp only [List.getElem_toArray, List.getElem_cons_zero, List.getElem_cons_succ, Act.put, List.setIfInBounds_toArray, List.set_cons_zero, List.set_cons_succ]
  refine wpAnyH_take (i := 2) (oi := _) (v := ?_) rfl (by kernel_rfl) (by kernel_rfl) (by kernel_rfl) (fun _ _ _ h => h) (Or.inl ⟨by kernel_rfl, ?_⟩) (by assumption) ?_
  rotate_left
  · intro w hSw; (try dsimp only at hSw); go_simp; first | done | with_reducible rfl
  try simp only [List.getElem_toArray, List.getElem_cons_zero, List.getElem_cons_succ, Act.put, List.setIfInBounds_toArray, List.set_cons_zero, List.set_cons_succ]
  refine wpAnyH_take (i := 3) (oi := _) (v := ?_) rfl (by kernel_rfl) (by kernel_rfl) (by kernel_rfl) (fun _ _ _ h => h) (Or.inl ⟨by kernel_rfl, ?_⟩) (by assumption) ?_
  rotate_left
  · intro w hSw; (try dsimp only at hSw); go_simp; first | done | with_reducible rfl
  try simp only [List.getElem_toArray, List.getElem_cons_zero, List.getElem_cons_succ, Act.put, List.setIfInBounds_toArray, List.set_cons_zero, List.set_cons_succ]
  refine wpAnyH_take (i := 4) (oi := _) (v := ?_) rfl (by kernel_rfl) (by kernel_rfl) (by kernel_rfl) (fun _ _ _ h => h) (Or.inl ⟨by kernel_rfl, ?_⟩) (by assumption) ?_
  rotate_left
  · intro w hSw; (try dsimp only at hSw); go_simp; first | done | with_reducible rfl
  try simp only [List.getElem_toArray, List.getElem_cons_zero, List.getElem_cons_succ, Act.put, List.setIfInBounds_toArray, List.set_cons_zero, List.set_cons_succ]
  refine wpAnyH_take (i := 5) (oi := _) (v := ?_) rfl (by kernel_rfl) (by kernel_rfl) (by kernel_rfl) (fun _ _ _ h => h) (Or.inl ⟨by kernel_rfl, ?_⟩) (by assumption) ?_
  rotate_left
  · intro w hSw; (try dsimp only at hSw); go_simp; first | done | with_reducible rfl
  try simp only [List.getElem_toArray, List.getElem_cons_zero, List.getElem_cons_succ, Act.put, List.setIfInBounds_toArray, List.set_cons_zero, List.set_cons_succ]
  refine wpAnyH_take (i := 7) (oi := _) (v := ?_) rfl (by kernel_rfl) (by kernel_rfl) (by kernel_rfl) (fun _ _ _ h => h) (Or.inl ⟨by kernel_rfl, ?_⟩) (by assumption) ?_
  rotate_left
  · intro w hSw; (try dsimp only at hSw); go_simp; first | done | with_reducible rfl
  try simp only [List.getElem_toArray, List.getElem_cons_zero, List.getElem_cons_succ, Act.put, List.setIfInBounds_toArray, List.set_cons_zero, List.set_cons_succ]
  refine wpAnyH_ready (rs := [6, 8]) (by kernel_rfl) (by simp) ?_
  refine AllReadyH.cons (o := _) rfl (fun K hK => ?_) (AllReadyH.cons (o := _) rfl (fun K hK => ?_) AllReadyH.nil)
  · skip
    go_simp
    refine (clone_any g n n c _ hm (hrow.of_block (B.block _ hrow.lt))).mono ?_
    rintro e wv1 ⟨hb, v6, rfl, O6⟩
    replace O6 := World.ownsRow.mono O6 hz
    replace hz : w.heap.size + 3 ≤ _ := Nat.le_trans hz hb.size
    replace HQ := HQ.below hb
    replace H3 := H3.below hb
    replace H1 := H1.below hb
    replace B := nxt B hb
    clear hb lq pq qq rq l3 p3 q3 r3 s3
    obtain ⟨lq, pq, qq, rq⟩ := id HQ
    obtain ⟨l3, p3, q3, r3, s3⟩ := id H3
    refine hK.out _ _ ⟨pq, qq, rq, p3, q3, r3, s3⟩ (fun hHeld => ?_)
    clear hK K
    try simp only [List.getElem_toArray, List.getElem_cons_zero, List.getElem_cons_succ, Act.put, List.setIfInBounds_toArray, List.set_cons_zero, List.set_cons_succ]
    refine wpAnyH_ready (rs := [8]) (by kernel_rfl) (by simp) ?_
    refine AllReadyH.cons (o := _) rfl (fun K hK => ?_) AllReadyH.nil
    go_simp
    have X8 := Bx.new wv1 #[.int .i8 a0, .int .i8 a1, .int .i8 a2, .int .i8 a3] 31
    replace HQ := HQ.alloc (.cells #[.int .i8 a0, .int .i8 a1, .int .i8 a2, .int .i8 a3] 31)
    replace H3 := H3.alloc (.cells #[.int .i8 a0, .int .i8 a1, .int .i8 a2, .int .i8 a3] 31)
    replace H1 := H1.alloc (.cells #[.int .i8 a0, .int .i8 a1, .int .i8 a2, .int .i8 a3] 31)
    replace O6 := World.ownsRow.alloc O6 (.cells #[.int .i8 a0, .int .i8 a1, .int .i8 a2, .int .i8 a3] 31)
    replace hz : w.heap.size + 3 ≤ (wv1.alloc (.cells #[.int .i8 a0, .int .i8 a1, .int .i8 a2, .int .i8 a3] 31)).heap.size := by rw [World.size_alloc]; omega
    replace B := al B (.cells #[.int .i8 a0, .int .i8 a1, .int .i8 a2, .int .i8 a3] 31)
    obtain ⟨wv2, hwn⟩ : ∃ wv2, wv1.alloc (.cells #[.int .i8 a0, .int .i8 a1, .int .i8 a2, .int .i8 a3] 31) = wv2 := ⟨_, rfl⟩
    rw [hwn] at B hz X8 HQ H3 H1 O6 ⊢
    clear hwn lq pq qq rq l3 p3 q3 r3 s3
    obtain ⟨lq, pq, qq, rq⟩ := id HQ
    obtain ⟨l3, p3, q3, r3, s3⟩ := id H3
    refine hK.out _ _ ⟨pq, qq, rq, p3, q3, r3, s3⟩ (fun hHeld => ?_)
    clear hK K
    try simp only [List.getElem_toArray, List.getElem_cons_zero, List.getElem_cons_succ, Act.put, List.setIfInBounds_toArray, List.set_cons_zero, List.set_cons_succ]
    refine wpAnyH_ready (rs := [9]) (by kernel_rfl) (by simp) ?_
    refine AllReadyH.cons (o := _) rfl (fun K hK => ?_) AllReadyH.nil
    have HO6 := Lib.hid O6
    have N8 : Hid (∀ j u, (encS (a0, a1, a2, a3))[j]? = some u → wv2.cell? ((⟨wv1.heap.size, 0, none⟩ : Addr).add j) = some u) := X8.adds
    have hl6 : ∀ b, v6.ownBlock = some b → w.heap.size + 3 ≤ b := fun b e => (World.ownsRow.lt O6 b e).1
    clear O6
    refine wp_append_own _ _ _ 27 rfl (w.heap.size + 3) 31 i0 (.agg #[.int .i8 0, .int .i8 0, .int .i8 0, .int .i8 0]) 4 4 Try.underlying27 HI.out hz0 hz1 hz2 rfl (by decide) v6 n (rowV c (4 * n)) rfl HO6.out ⟨wv1.heap.size, 0, none⟩ 1 1 (encS (a0, a1, a2, a3)) rfl rfl N8 (encL_one [(a0, a1, a2, a3)]) (by unfold maxLen; omega) (by omega) hz ?_
    intro v9 w9 ow hg hn
    have O9 : w9.ownsRow (w.heap.size + 3) 31 4 v9 (n + 1) (encL (putL c n (a0, a1, a2, a3))) := by rw [putL_enc, ← rowV_enc]; exact ow
    obtain ⟨A9, g9, cp9, S9⟩ := own_has O9 (f := fL (putL c n (a0, a1, a2, a3))) (fun j hj => encL_get _ j (by rw [putL_length]; exact hj))
    obtain ⟨rfl, hb9, hs9⟩ := S9.2.1 (by omega)
    obtain rfl := S9.1
    have hO9 := S9.2.2
    replace HQ := HQ.of_block hg.size (hg.block _ HQ.1 (fun e => by have := hl6 _ e.symm; omega))
    replace H3 := H3.of_block hg.size (hg.block _ H3.1 (fun e => by have := hl6 _ e.symm; omega))
    replace H1 := H1.of_block (hg.block _ H1.lt (fun e => by have := hl6 _ e.symm; omega))
    replace B := B.grown hg B.size (fun b e => by have := hl6 _ e; omega)
    clear HO6 N8 X8 hl6 ow hg hn O9 S9 lq pq qq rq l3 p3 q3 r3 s3
    obtain ⟨lq, pq, qq, rq⟩ := id HQ
    obtain ⟨l3, p3, q3, r3, s3⟩ := id H3
    refine hK.out _ _ ⟨pq, qq, rq, p3, q3, r3, s3⟩ (fun hHeld => ?_)
    clear hK K
    try simp only [List.getElem_toArray, List.getElem_cons_zero, List.getElem_cons_succ, Act.put, List.setIfInBounds_toArray, List.set_cons_zero, List.set_cons_succ]
    refine wpAnyH_ready (rs := [10]) (by kernel_rfl) (by simp) ?_
    refine AllReadyH.cons (o := _) rfl (fun K hK => ?_) AllReadyH.nil
    go_simp
    refine (squareWith_any X Y g9 (n + 1) cp9 (fL (putL c n (a0, a1, a2, a3))) _ (by omega) hs9 hO9).mono ?_
    rintro e w5 ⟨rfl, hgr, L, hSo, hOL⟩
    have hzz : toL (fL (putL c n (a0, a1, a2, a3))) (n + 1) = (putL c n (a0, a1, a2, a3)) := by have := toL_fL (putL c n (a0, a1, a2, a3)); rwa [putL_length] at this
    rw [hzz] at hSo
    replace HQ := HQ.of_block hgr.size (hgr.block _ HQ.1 (fun e => by injection e; omega))
    replace H3 := H3.of_block hgr.size (hgr.block _ H3.1 (fun e => by injection e; omega))
    replace H1 := H1.of_block (hgr.block _ H1.lt (fun e => by injection e; omega))
    replace B := below_grown B hgr B.size (by omega)
    have hs5 : g9 < w5.heap.size := Nat.lt_of_lt_of_le hs9 hgr.size
    have HSo := Lib.hid hSo
    have HOL := Lib.hid hOL
    clear hgr hSo hOL hO9 hzz lq pq qq rq l3 p3 q3 r3 s3
    obtain ⟨lq, pq, qq, rq⟩ := id HQ
    obtain ⟨l3, p3, q3, r3, s3⟩ := id H3
    obtain ⟨p1, q1, r1⟩ := H1.cells3
    have f10 := H1.frozen 0
    have f11 := H1.frozen 1
    have f12 := H1.frozen 2
    have hne : w.heap.size ≠ w.heap.size + 2 := by omega
    have hne3 : w.heap.size + 1 ≠ w.heap.size + 2 := by omega
    refine hK.out _ _ ⟨pq, qq, rq, p3, q3, r3, s3⟩ (fun hHeld => ?_)
    clear hK K
    try simp only [List.getElem_toArray, List.getElem_cons_zero, List.getElem_cons_succ, Act.put, List.setIfInBounds_toArray, List.set_cons_zero, List.set_cons_succ]
    refine wpAnyH_ready (rs := [11]) (by kernel_rfl) (by simp) ?_
    refine AllReadyH.cons (o := _) rfl (fun K hK => ?_) AllReadyH.nil
    go_simp
    refine hK.out _ _ ⟨(World.cell?_of_block (w := w5) (blk3 hne)).trans pq, (World.cell?_of_block (w := w5) (blk3 hne)).trans qq, (World.cell?_of_block (w := w5) (blk3 hne)).trans rq, (World.cell?_of_block (w := w5) (blk3 hne3)).trans p3, (World.cell?_of_block (w := w5) (blk3 hne3)).trans q3, (World.cell?_of_block (w := w5) (blk3 hne3)).trans r3, (World.cell?_of_block (w := w5) (blk3 hne3)).trans s3⟩ (fun hHeld => ?_)
    clear hK K
    try simp only [List.getElem_toArray, List.getElem_cons_zero, List.getElem_cons_succ, Act.put, List.setIfInBounds_toArray, List.set_cons_zero, List.set_cons_succ]
    refine wpAnyH_take (i := 12) (oi := _) (v := ?_) rfl (by kernel_rfl) (by kernel_rfl) (by kernel_rfl) (fun _ _ _ h => h) (Or.inl ⟨by kernel_rfl, ?_⟩) (by assumption) ?_
    rotate_left
    · intro w hSw; (try dsimp only at hSw); go_simp; first | done | with_reducible rfl
    try simp only [List.getElem_toArray, List.getElem_cons_zero, List.getElem_cons_succ, Act.put, List.setIfInBounds_toArray, List.set_cons_zero, List.set_cons_succ]
    refine wpAnyH_done (by kernel_rfl) ?_ _
    clear hHeld
    go_wp2_with fail
    have F1 := H1.set3 (.int .i8 X) (.int .i8 Y) (.slice (some ⟨g9, 0, none⟩) (n + 1 : Nat) cp9)
    have B3 := below_set3 (g := w.heap.size + 2) (v0 := .int .i8 X) (v1 := .int .i8 Y) (v2 := .slice (some ⟨g9, 0, none⟩) (n + 1 : Nat) cp9) B (by omega)
    obtain ⟨x1, y1, z1⟩ := F1.cells3
    refine bodyPost_ret (v := .tuple #[.agg #[.int .i8 X, .int .i8 Y, .slice (some ⟨g9, 0, none⟩) (n + 1 : Nat) cp9], .int .i64 0]) (by simp [results, Try.results25, go_sem, x1, y1, z1]) rfl ⟨B3, _, L, rfl, HSo.out, ⟨some ⟨g9, 0, none⟩, g9, cp9, rfl, fun _ => ⟨rfl, by omega, by simp; exact hs5⟩, OwnK.of_block (kd := .i8) HOL.out (blk3 (by omega))⟩⟩
  · skip
    go_simp
    have X8 := Bx.new w0 #[.int .i8 a0, .int .i8 a1, .int .i8 a2, .int .i8 a3] 31
    replace HQ := HQ.alloc (.cells #[.int .i8 a0, .int .i8 a1, .int .i8 a2, .int .i8 a3] 31)
    replace H3 := H3.alloc (.cells #[.int .i8 a0, .int .i8 a1, .int .i8 a2, .int .i8 a3] 31)
    replace H1 := H1.alloc (.cells #[.int .i8 a0, .int .i8 a1, .int .i8 a2, .int .i8 a3] 31)
    replace hz : w.heap.size + 3 ≤ (w0.alloc (.cells #[.int .i8 a0, .int .i8 a1, .int .i8 a2, .int .i8 a3] 31)).heap.size := by rw [World.size_alloc]; omega
    replace B := al B (.cells #[.int .i8 a0, .int .i8 a1, .int .i8 a2, .int .i8 a3] 31)
    obtain ⟨wv3, hwn⟩ : ∃ wv3, w0.alloc (.cells #[.int .i8 a0, .int .i8 a1, .int .i8 a2, .int .i8 a3] 31) = wv3 := ⟨_, rfl⟩
    rw [hwn] at B hz X8 HQ H3 H1 ⊢
    clear hwn lq pq qq rq l3 p3 q3 r3 s3
    obtain ⟨lq, pq, qq, rq⟩ := id HQ
    obtain ⟨l3, p3, q3, r3, s3⟩ := id H3
    refine hK.out _ _ ⟨pq, qq, rq, p3, q3, r3, s3⟩ (fun hHeld => ?_)
    clear hK K
    try simp only [List.getElem_toArray, List.getElem_cons_zero, List.getElem_cons_succ, Act.put, List.setIfInBounds_toArray, List.set_cons_zero, List.set_cons_succ]
    refine wpAnyH_ready (rs := [6]) (by kernel_rfl) (by simp) ?_
    refine AllReadyH.cons (o := _) rfl (fun K hK => ?_) AllReadyH.nil
    go_simp
    refine (clone_any g n n c _ hm (hrow.of_block (B.block _ hrow.lt))).mono ?_
    rintro e wv4 ⟨hb, v6, rfl, O6⟩
    replace O6 := World.ownsRow.mono O6 hz
    replace hz : w.heap.size + 3 ≤ _ := Nat.le_trans hz hb.size
    replace HQ := HQ.below hb
    replace H3 := H3.below hb
    replace H1 := H1.below hb
    replace X8 := X8.below hb
    replace B := nxt B hb
    clear hb lq pq qq rq l3 p3 q3 r3 s3
    obtain ⟨lq, pq, qq, rq⟩ := id HQ
    obtain ⟨l3, p3, q3, r3, s3⟩ := id H3
    refine hK.out _ _ ⟨pq, qq, rq, p3, q3, r3, s3⟩ (fun hHeld => ?_)
    clear hK K
    try simp only [List.getElem_toArray, List.getElem_cons_zero, List.getElem_cons_succ, Act.put, List.setIfInBounds_toArray, List.set_cons_zero, List.set_cons_succ]
    refine wpAnyH_ready (rs := [9]) (by kernel_rfl) (by simp) ?_
    refine AllReadyH.cons (o := _) rfl (fun K hK => ?_) AllReadyH.nil
    have HO6 := Lib.hid O6
    have N8 : Hid (∀ j u, (encS (a0, a1, a2, a3))[j]? = some u → wv4.cell? ((⟨w0.heap.size, 0, none⟩ : Addr).add j) = some u) := X8.adds
    have hl6 : ∀ b, v6.ownBlock = some b → w.heap.size + 3 ≤ b := fun b e => (World.ownsRow.lt O6 b e).1
    clear O6
    refine wp_append_own _ _ _ 27 rfl (w.heap.size + 3) 31 i0 (.agg #[.int .i8 0, .int .i8 0, .int .i8 0, .int .i8 0]) 4 4 Try.underlying27 HI.out hz0 hz1 hz2 rfl (by decide) v6 n (rowV c (4 * n)) rfl HO6.out ⟨w0.heap.size, 0, none⟩ 1 1 (encS (a0, a1, a2, a3)) rfl rfl N8 (encL_one [(a0, a1, a2, a3)]) (by unfold maxLen; omega) (by omega) hz ?_
    intro v9 w9 ow hg hn
    have O9 : w9.ownsRow (w.heap.size + 3) 31 4 v9 (n + 1) (encL (putL c n (a0, a1, a2, a3))) := by rw [putL_enc, ← rowV_enc]; exact ow
    obtain ⟨A9, g9, cp9, S9⟩ := own_has O9 (f := fL (putL c n (a0, a1, a2, a3))) (fun j hj => encL_get _ j (by rw [putL_length]; exact hj))
    obtain ⟨rfl, hb9, hs9⟩ := S9.2.1 (by omega)
    obtain rfl := S9.1
    have hO9 := S9.2.2
    replace HQ := HQ.of_block hg.size (hg.block _ HQ.1 (fun e => by have := hl6 _ e.symm; omega))
    replace H3 := H3.of_block hg.size (hg.block _ H3.1 (fun e => by have := hl6 _ e.symm; omega))
    replace H1 := H1.of_block (hg.block _ H1.lt (fun e => by have := hl6 _ e.symm; omega))
    replace B := B.grown hg B.size (fun b e => by have := hl6 _ e; omega)
    clear HO6 N8 X8 hl6 ow hg hn O9 S9 lq pq qq rq l3 p3 q3 r3 s3
    obtain ⟨lq, pq, qq, rq⟩ := id HQ
    obtain ⟨l3, p3, q3, r3, s3⟩ := id H3
    refine hK.out _ _ ⟨pq, qq, rq, p3, q3, r3, s3⟩ (fun hHeld => ?_)
    clear hK K
    try simp only [List.getElem_toArray, List.getElem_cons_zero, List.getElem_cons_succ, Act.put, List.setIfInBounds_toArray, List.set_cons_zero, List.set_cons_succ]
    refine wpAnyH_ready (rs := [10]) (by kernel_rfl) (by simp) ?_
    refine AllReadyH.cons (o := _) rfl (fun K hK => ?_) AllReadyH.nil
    go_simp
    refine (squareWith_any X Y g9 (n + 1) cp9 (fL (putL c n (a0, a1, a2, a3))) _ (by omega) hs9 hO9).mono ?_
    rintro e w5 ⟨rfl, hgr, L, hSo, hOL⟩
    have hzz : toL (fL (putL c n (a0, a1, a2, a3))) (n + 1) = (putL c n (a0, a1, a2, a3)) := by have := toL_fL (putL c n (a0, a1, a2, a3)); rwa [putL_length] at this
    rw [hzz] at hSo
    replace HQ := HQ.of_block hgr.size (hgr.block _ HQ.1 (fun e => by injection e; omega))
    replace H3 := H3.of_block hgr.size (hgr.block _ H3.1 (fun e => by injection e; omega))
    replace H1 := H1.of_block (hgr.block _ H1.lt (fun e => by injection e; omega))
    replace B := below_grown B hgr B.size (by omega)
    have hs5 : g9 < w5.heap.size := Nat.lt_of_lt_of_le hs9 hgr.size
    have HSo := Lib.hid hSo
    have HOL := Lib.hid hOL
    clear hgr hSo hOL hO9 hzz lq pq qq rq l3 p3 q3 r3 s3
    obtain ⟨lq, pq, qq, rq⟩ := id HQ
    obtain ⟨l3, p3, q3, r3, s3⟩ := id H3
    obtain ⟨p1, q1, r1⟩ := H1.cells3
    have f10 := H1.frozen 0
    have f11 := H1.frozen 1
    have f12 := H1.frozen 2
    have hne : w.heap.size ≠ w.heap.size + 2 := by omega
    have hne3 : w.heap.size + 1 ≠ w.heap.size + 2 := by omega
    refine hK.out _ _ ⟨pq, qq, rq, p3, q3, r3, s3⟩ (fun hHeld => ?_)
    clear hK K
    try simp only [List.getElem_toArray, List.getElem_cons_zero, List.getElem_cons_succ, Act.put, List.setIfInBounds_toArray, List.set_cons_zero, List.set_cons_succ]
    refine wpAnyH_ready (rs := [11]) (by kernel_rfl) (by simp) ?_
    refine AllReadyH.cons (o := _) rfl (fun K hK => ?_) AllReadyH.nil
    go_simp
    refine hK.out _ _ ⟨(World.cell?_of_block (w := w5) (blk3 hne)).trans pq, (World.cell?_of_block (w := w5) (blk3 hne)).trans qq, (World.cell?_of_block (w := w5) (blk3 hne)).trans rq, (World.cell?_of_block (w := w5) (blk3 hne3)).trans p3, (World.cell?_of_block (w := w5) (blk3 hne3)).trans q3, (World.cell?_of_block (w := w5) (blk3 hne3)).trans r3, (World.cell?_of_block (w := w5) (blk3 hne3)).trans s3⟩ (fun hHeld => ?_)
    clear hK K
    try simp only [List.getElem_toArray, List.getElem_cons_zero, List.getElem_cons_succ, Act.put, List.setIfInBounds_toArray, List.set_cons_zero, List.set_cons_succ]
    refine wpAnyH_take (i := 12) (oi := _) (v := ?_) rfl (by kernel_rfl) (by kernel_rfl) (by kernel_rfl) (fun _ _ _ h => h) (Or.inl ⟨by kernel_rfl, ?_⟩) (by assumption) ?_
    rotate_left
    · intro w hSw; (try dsimp only at hSw); go_simp; first | done | with_reducible rfl
    try simp only [List.getElem_toArray, List.getElem_cons_zero, List.getElem_cons_succ, Act.put, List.setIfInBounds_toArray, List.set_cons_zero, List.set_cons_succ]
    refine wpAnyH_done (by kernel_rfl) ?_ _
    clear hHeld
    go_wp2_with fail
    have F1 := H1.set3 (.int .i8 X) (.int .i8 Y) (.slice (some ⟨g9, 0, none⟩) (n + 1 : Nat) cp9)
    have B3 := below_set3 (g := w.heap.size + 2) (v0 := .int .i8 X) (v1 := .int .i8 Y) (v2 := .slice (some ⟨g9, 0, none⟩) (n + 1 : Nat) cp9) B (by omega)
    obtain ⟨x1, y1, z1⟩ := F1.cells3
    refine bodyPost_ret (v := .tuple #[.agg #[.int .i8 X, .int .i8 Y, .slice (some ⟨g9, 0, none⟩) (n + 1 : Nat) cp9], .int .i64 0]) (by simp [results, Try.results25, go_sem, x1, y1, z1]) rfl ⟨B3, _, L, rfl, HSo.out, ⟨some ⟨g9, 0, none⟩, g9, cp9, rfl, fun _ => ⟨rfl, by omega, by simp; exact hs5⟩, OwnK.of_block (kd := .i8) HOL.out (blk3 (by omega))⟩⟩
theorem spec_bad (X Y : Int) (g n : Nat) (c : Nat → Int) (a0 a1 a2 a3 : Int) (w : World) (hX : -128 ≤ X ∧ X ≤ 127) (hY : -128 ≤ Y ∧ Y ≤ 127) (hc : ∀ j, -128 ≤ c j ∧ c j ≤ 127) (hm : n ≤ 1048576) (hrow : w.rowIs g 31 (4 * n) (fun j => .int .i8 (c j))) (hv : ¬ Valid X Y n c) :
    Calls Try.prog 23 #[.agg #[.int .i8 X, .int .i8 Y, .slice (some ⟨g, 0, none⟩) n n], .agg #[.int .i8 a0, .int .i8 a1, .int .i8 a2, .int .i8 a3]] w fun e w' => Below w.heap.size w w' ∧ ∃ v, e = .returned (.tuple #[.agg #[.int .i8 0, .int .i8 0, v], .int .i64 1]) ∧ HasSlice .i8 4 w' w.heap.size v 0 (fL []) := by
  have HC := Lib.hid hc
  clear hc
  go_enter Try.func23, Try.ntmps23
  go_wp2_with fail
  have HQ := ((Sq.new w X Y (.slice (some ⟨g, 0, none⟩) n n) 29).alloc (.cells #[.int .i8 a0, .int .i8 a1, .int .i8 a2, .int .i8 a3] 31)).alloc (.cells #[.int .i8 0, .int .i8 0, .slice none 0 0] 29)
  have H3 : Sl (((w.alloc (.cells #[.int .i8 X, .int .i8 Y, .slice (some ⟨g, 0, none⟩) n n] 29)).alloc (.cells #[.int .i8 a0, .int .i8 a1, .int .i8 a2, .int .i8 a3] 31)).alloc (.cells #[.int .i8 0, .int .i8 0, .slice none 0 0] 29)) (w.heap.size + 1) a0 a1 a2 a3 := by
    have := (Sl.new (w.alloc (.cells #[.int .i8 X, .int .i8 Y, .slice (some ⟨g, 0, none⟩) n n] 29)) a0 a1 a2 a3 31).alloc (.cells #[.int .i8 0, .int .i8 0, .slice none 0 0] 29)
    rwa [World.size_alloc] at this
  have H1 : Bx (((w.alloc (.cells #[.int .i8 X, .int .i8 Y, .slice (some ⟨g, 0, none⟩) n n] 29)).alloc (.cells #[.int .i8 a0, .int .i8 a1, .int .i8 a2, .int .i8 a3] 31)).alloc (.cells #[.int .i8 0, .int .i8 0, .slice none 0 0] 29)) (w.heap.size + 2) #[.int .i8 0, .int .i8 0, .slice none 0 0] 29 := by
    have := Bx.new ((w.alloc (.cells #[.int .i8 X, .int .i8 Y, .slice (some ⟨g, 0, none⟩) n n] 29)).alloc (.cells #[.int .i8 a0, .int .i8 a1, .int .i8 a2, .int .i8 a3] 31)) #[.int .i8 0, .int .i8 0, .slice none 0 0] 29
    rwa [World.size_alloc, World.size_alloc] at this
  have B := al (al (al (Below.refl w.heap.size w) (.cells #[.int .i8 X, .int .i8 Y, .slice (some ⟨g, 0, none⟩) n n] 29)) (.cells #[.int .i8 a0, .int .i8 a1, .int .i8 a2, .int .i8 a3] 31)) (.cells #[.int .i8 0, .int .i8 0, .slice none 0 0] 29)
  obtain ⟨W0, hW0⟩ : ∃ W0 : World, W0 = (((w.alloc (.cells #[.int .i8 X, .int .i8 Y, .slice (some ⟨g, 0, none⟩) n n] 29)).alloc (.cells #[.int .i8 a0, .int .i8 a1, .int .i8 a2, .int .i8 a3] 31)).alloc (.cells #[.int .i8 0, .int .i8 0, .slice none 0 0] 29)) := ⟨_, rfl⟩
  rw [← hW0] at HQ H3 H1 B ⊢
  clear hW0
  obtain ⟨lq, pq, qq, rq⟩ := id HQ
  obtain ⟨l3, p3, q3, r3, s3⟩ := id H3
  go_wp2_with fail
  refine (ok_any X Y w.heap.size g n c _ hX hY HC.out hm HQ (hrow.of_block (B.block _ hrow.lt))).mono ?_
  rintro e w1 ⟨hb, ⟨h, _⟩ | ⟨_, rfl⟩⟩
  case inl => exact absurd h hv
  clear lq pq qq rq l3 p3 q3 r3 s3
  replace HQ := HQ.below hb
  replace H3 := H3.below hb
  replace H1 := H1.below hb
  replace B := nxt B hb
  clear hb
  obtain ⟨lq, pq, qq, rq⟩ := id HQ
  obtain ⟨l3, p3, q3, r3, s3⟩ := id H3
  obtain ⟨p1, q1, r1⟩ := H1.cells3
  have f10 := H1.frozen 0
  have f11 := H1.frozen 1
  have f12 := H1.frozen 2
  go_wp2_with fail
  have F1 := H1.set3 (.int .i8 0) (.int .i8 0) (.slice none 0 0)
  have B3 := below_set3 (g := w.heap.size + 2) (v0 := .int .i8 0) (v1 := .int .i8 0) (v2 := .slice none 0 0) B (by omega)
  obtain ⟨x1, y1, z1⟩ := F1.cells3
  refine bodyPost_ret (v := .tuple #[.agg #[.int .i8 0, .int .i8 0, .slice none 0 0], .int .i64 1]) (by simp [results, Try.results23, go_sem, x1, y1, z1]) rfl ⟨B3, _, rfl, ⟨none, 0, 0, rfl, fun h => absurd h (by omega), fun j hj => absurd hj (by omega)⟩⟩
theorem spec_no (X Y : Int) (g n : Nat) (c : Nat → Int) (a0 a1 a2 a3 : Int) (w : World) (hX : -128 ≤ X ∧ X ≤ 127) (hY : -128 ≤ Y ∧ Y ≤ 127) (hc : ∀ j, -128 ≤ c j ∧ c j ≤ 127) (hm : n ≤ 1048576) (hrow : w.rowIs g 31 (4 * n) (fun j => .int .i8 (c j))) (hv : Valid X Y n c) (hcan : ∀ (W : World) (bq : Nat), Sq W bq X Y (.slice (some ⟨g, 0, none⟩) n n) → W.rowIs g 31 (4 * n) (fun j => .int .i8 (c j)) → Calls Try.prog 70 #[.pointer (some ⟨bq, 0, none⟩), .agg #[.int .i8 a0, .int .i8 a1, .int .i8 a2, .int .i8 a3]] W fun e w' => Below W.heap.size W w' ∧ e = .returned (.bool false)) :
    Calls Try.prog 23 #[.agg #[.int .i8 X, .int .i8 Y, .slice (some ⟨g, 0, none⟩) n n], .agg #[.int .i8 a0, .int .i8 a1, .int .i8 a2, .int .i8 a3]] w fun e w' => Below w.heap.size w w' ∧ ∃ v, e = .returned (.tuple #[.agg #[.int .i8 0, .int .i8 0, v], .int .i64 4]) ∧ HasSlice .i8 4 w' w.heap.size v 0 (fL []) := by
  have HC := Lib.hid hc
  clear hc
  have HCAN := Lib.hid hcan
  clear hcan
  go_enter Try.func23, Try.ntmps23
  go_wp2_with fail
  have HQ := ((Sq.new w X Y (.slice (some ⟨g, 0, none⟩) n n) 29).alloc (.cells #[.int .i8 a0, .int .i8 a1, .int .i8 a2, .int .i8 a3] 31)).alloc (.cells #[.int .i8 0, .int .i8 0, .slice none 0 0] 29)
  have H3 : Sl (((w.alloc (.cells #[.int .i8 X, .int .i8 Y, .slice (some ⟨g, 0, none⟩) n n] 29)).alloc (.cells #[.int .i8 a0, .int .i8 a1, .int .i8 a2, .int .i8 a3] 31)).alloc (.cells #[.int .i8 0, .int .i8 0, .slice none 0 0] 29)) (w.heap.size + 1) a0 a1 a2 a3 := by
    have := (Sl.new (w.alloc (.cells #[.int .i8 X, .int .i8 Y, .slice (some ⟨g, 0, none⟩) n n] 29)) a0 a1 a2 a3 31).alloc (.cells #[.int .i8 0, .int .i8 0, .slice none 0 0] 29)
    rwa [World.size_alloc] at this
  have H1 : Bx (((w.alloc (.cells #[.int .i8 X, .int .i8 Y, .slice (some ⟨g, 0, none⟩) n n] 29)).alloc (.cells #[.int .i8 a0, .int .i8 a1, .int .i8 a2, .int .i8 a3] 31)).alloc (.cells #[.int .i8 0, .int .i8 0, .slice none 0 0] 29)) (w.heap.size + 2) #[.int .i8 0, .int .i8 0, .slice none 0 0] 29 := by
    have := Bx.new ((w.alloc (.cells #[.int .i8 X, .int .i8 Y, .slice (some ⟨g, 0, none⟩) n n] 29)).alloc (.cells #[.int .i8 a0, .int .i8 a1, .int .i8 a2, .int .i8 a3] 31)) #[.int .i8 0, .int .i8 0, .slice none 0 0] 29
    rwa [World.size_alloc, World.size_alloc] at this
  have B := al (al (al (Below.refl w.heap.size w) (.cells #[.int .i8 X, .int .i8 Y, .slice (some ⟨g, 0, none⟩) n n] 29)) (.cells #[.int .i8 a0, .int .i8 a1, .int .i8 a2, .int .i8 a3] 31)) (.cells #[.int .i8 0, .int .i8 0, .slice none 0 0] 29)
  obtain ⟨W0, hW0⟩ : ∃ W0 : World, W0 = (((w.alloc (.cells #[.int .i8 X, .int .i8 Y, .slice (some ⟨g, 0, none⟩) n n] 29)).alloc (.cells #[.int .i8 a0, .int .i8 a1, .int .i8 a2, .int .i8 a3] 31)).alloc (.cells #[.int .i8 0, .int .i8 0, .slice none 0 0] 29)) := ⟨_, rfl⟩
  rw [← hW0] at HQ H3 H1 B ⊢
  clear hW0
  obtain ⟨lq, pq, qq, rq⟩ := id HQ
  obtain ⟨l3, p3, q3, r3, s3⟩ := id H3
  go_wp2_with fail
  refine (ok_any X Y w.heap.size g n c _ hX hY HC.out hm HQ (hrow.of_block (B.block _ hrow.lt))).mono ?_
  rintro e w1 ⟨hb, ⟨_, rfl⟩ | ⟨h, _⟩⟩
  case inr => exact absurd hv h
  clear lq pq qq rq l3 p3 q3 r3 s3
  replace HQ := HQ.below hb
  replace H3 := H3.below hb
  replace H1 := H1.below hb
  replace B := nxt B hb
  clear hb
  obtain ⟨lq, pq, qq, rq⟩ := id HQ
  obtain ⟨l3, p3, q3, r3, s3⟩ := id H3
  go_wp2_with fail
  refine (HCAN.out _ _ HQ (hrow.of_block (B.block _ hrow.lt))).mono ?_
  rintro e w2 ⟨hb, rfl⟩
  clear lq pq qq rq l3 p3 q3 r3 s3
  replace HQ := HQ.below hb
  replace H3 := H3.below hb
  replace H1 := H1.below hb
  replace B := nxt B hb
  clear hb
  obtain ⟨lq, pq, qq, rq⟩ := id HQ
  obtain ⟨l3, p3, q3, r3, s3⟩ := id H3
  obtain ⟨p1, q1, r1⟩ := H1.cells3
  have f10 := H1.frozen 0
  have f11 := H1.frozen 1
  have f12 := H1.frozen 2
  go_wp2_with fail
  have F1 := H1.set3 (.int .i8 0) (.int .i8 0) (.slice none 0 0)
  have B3 := below_set3 (g := w.heap.size + 2) (v0 := .int .i8 0) (v1 := .int .i8 0) (v2 := .slice none 0 0) B (by omega)
  obtain ⟨x1, y1, z1⟩ := F1.cells3
  refine bodyPost_ret (v := .tuple #[.agg #[.int .i8 0, .int .i8 0, .slice none 0 0], .int .i64 4]) (by simp [results, Try.results23, go_sem, x1, y1, z1]) rfl ⟨B3, _, rfl, ⟨none, 0, 0, rfl, fun h => absurd h (by omega), fun j hj => absurd hj (by omega)⟩⟩
theorem spec_full (X Y : Int) (g n : Nat) (c : Nat → Int) (a0 a1 a2 a3 : Int) (w : World) (hX : -128 ≤ X ∧ X ≤ 127) (hY : -128 ≤ Y ∧ Y ≤ 127) (hc : ∀ j, -128 ≤ c j ∧ c j ≤ 127) (hm : n ≤ 1048576) (hrow : w.rowIs g 31 (4 * n) (fun j => .int .i8 (c j))) (hv : Valid X Y n c) (hcan : ∀ (W : World) (bq : Nat), Sq W bq X Y (.slice (some ⟨g, 0, none⟩) n n) → W.rowIs g 31 (4 * n) (fun j => .int .i8 (c j)) → Calls Try.prog 70 #[.pointer (some ⟨bq, 0, none⟩), .agg #[.int .i8 a0, .int .i8 a1, .int .i8 a2, .int .i8 a3]] W fun e w' => Below W.heap.size W w' ∧ e = .returned (.bool true)) (h60 : n = 60) :
    Calls Try.prog 23 #[.agg #[.int .i8 X, .int .i8 Y, .slice (some ⟨g, 0, none⟩) n n], .agg #[.int .i8 a0, .int .i8 a1, .int .i8 a2, .int .i8 a3]] w fun e w' => Below w.heap.size w w' ∧ ∃ v, e = .returned (.tuple #[.agg #[.int .i8 0, .int .i8 0, v], .int .i64 3]) ∧ HasSlice .i8 4 w' w.heap.size v 0 (fL []) := by
  have H60 := Lib.hid h60
  clear h60
  have HC := Lib.hid hc
  clear hc
  have HCAN := Lib.hid hcan
  clear hcan
  go_enter Try.func23, Try.ntmps23
  go_wp2_with fail
  have HQ := ((Sq.new w X Y (.slice (some ⟨g, 0, none⟩) n n) 29).alloc (.cells #[.int .i8 a0, .int .i8 a1, .int .i8 a2, .int .i8 a3] 31)).alloc (.cells #[.int .i8 0, .int .i8 0, .slice none 0 0] 29)
  have H3 : Sl (((w.alloc (.cells #[.int .i8 X, .int .i8 Y, .slice (some ⟨g, 0, none⟩) n n] 29)).alloc (.cells #[.int .i8 a0, .int .i8 a1, .int .i8 a2, .int .i8 a3] 31)).alloc (.cells #[.int .i8 0, .int .i8 0, .slice none 0 0] 29)) (w.heap.size + 1) a0 a1 a2 a3 := by
    have := (Sl.new (w.alloc (.cells #[.int .i8 X, .int .i8 Y, .slice (some ⟨g, 0, none⟩) n n] 29)) a0 a1 a2 a3 31).alloc (.cells #[.int .i8 0, .int .i8 0, .slice none 0 0] 29)
    rwa [World.size_alloc] at this
  have H1 : Bx (((w.alloc (.cells #[.int .i8 X, .int .i8 Y, .slice (some ⟨g, 0, none⟩) n n] 29)).alloc (.cells #[.int .i8 a0, .int .i8 a1, .int .i8 a2, .int .i8 a3] 31)).alloc (.cells #[.int .i8 0, .int .i8 0, .slice none 0 0] 29)) (w.heap.size + 2) #[.int .i8 0, .int .i8 0, .slice none 0 0] 29 := by
    have := Bx.new ((w.alloc (.cells #[.int .i8 X, .int .i8 Y, .slice (some ⟨g, 0, none⟩) n n] 29)).alloc (.cells #[.int .i8 a0, .int .i8 a1, .int .i8 a2, .int .i8 a3] 31)) #[.int .i8 0, .int .i8 0, .slice none 0 0] 29
    rwa [World.size_alloc, World.size_alloc] at this
  have B := al (al (al (Below.refl w.heap.size w) (.cells #[.int .i8 X, .int .i8 Y, .slice (some ⟨g, 0, none⟩) n n] 29)) (.cells #[.int .i8 a0, .int .i8 a1, .int .i8 a2, .int .i8 a3] 31)) (.cells #[.int .i8 0, .int .i8 0, .slice none 0 0] 29)
  obtain ⟨W0, hW0⟩ : ∃ W0 : World, W0 = (((w.alloc (.cells #[.int .i8 X, .int .i8 Y, .slice (some ⟨g, 0, none⟩) n n] 29)).alloc (.cells #[.int .i8 a0, .int .i8 a1, .int .i8 a2, .int .i8 a3] 31)).alloc (.cells #[.int .i8 0, .int .i8 0, .slice none 0 0] 29)) := ⟨_, rfl⟩
  rw [← hW0] at HQ H3 H1 B ⊢
  clear hW0
  obtain ⟨lq, pq, qq, rq⟩ := id HQ
  obtain ⟨l3, p3, q3, r3, s3⟩ := id H3
  go_wp2_with fail
  refine (ok_any X Y w.heap.size g n c _ hX hY HC.out hm HQ (hrow.of_block (B.block _ hrow.lt))).mono ?_
  rintro e w1 ⟨hb, ⟨_, rfl⟩ | ⟨h, _⟩⟩
  case inr => exact absurd hv h
  clear lq pq qq rq l3 p3 q3 r3 s3
  replace HQ := HQ.below hb
  replace H3 := H3.below hb
  replace H1 := H1.below hb
  replace B := nxt B hb
  clear hb
  obtain ⟨lq, pq, qq, rq⟩ := id HQ
  obtain ⟨l3, p3, q3, r3, s3⟩ := id H3
  go_wp2_with fail
  refine (HCAN.out _ _ HQ (hrow.of_block (B.block _ hrow.lt))).mono ?_
  rintro e w2 ⟨hb, rfl⟩
  clear lq pq qq rq l3 p3 q3 r3 s3
  replace HQ := HQ.below hb
  replace H3 := H3.below hb
  replace H1 := H1.below hb
  replace B := nxt B hb
  clear hb
  obtain ⟨lq, pq, qq, rq⟩ := id HQ
  obtain ⟨l3, p3, q3, r3, s3⟩ := id H3
  have e60 : ((n : Int) == 60) = true := by have := H60.out; simp; omega
  have d60 : decide ((n : Int) = 60) = true := by have := H60.out; simp; omega
  obtain ⟨p1, q1, r1⟩ := H1.cells3
  have f10 := H1.frozen 0
  have f11 := H1.frozen 1
  have f12 := H1.frozen 2
  go_wp2_with fail
  have F1 := H1.set3 (.int .i8 0) (.int .i8 0) (.slice none 0 0)
  have B3 := below_set3 (g := w.heap.size + 2) (v0 := .int .i8 0) (v1 := .int .i8 0) (v2 := .slice none 0 0) B (by omega)
  obtain ⟨x1, y1, z1⟩ := F1.cells3
  refine bodyPost_ret (v := .tuple #[.agg #[.int .i8 0, .int .i8 0, .slice none 0 0], .int .i64 3]) (by simp [results, Try.results23, go_sem, x1, y1, z1]) rfl ⟨B3, _, rfl, ⟨none, 0, 0, rfl, fun h => absurd h (by omega), fun j hj => absurd hj (by omega)⟩⟩
theorem spec_in (X Y : Int) (g n : Nat) (c : Nat → Int) (a0 a1 a2 a3 : Int) (w : World) (hX : -128 ≤ X ∧ X ≤ 127) (hY : -128 ≤ Y ∧ Y ≤ 127) (hc : ∀ j, -128 ≤ c j ∧ c j ≤ 127) (hm : n ≤ 1048576) (hrow : w.rowIs g 31 (4 * n) (fun j => .int .i8 (c j))) (hv : Valid X Y n c) (hcan : ∀ (W : World) (bq : Nat), Sq W bq X Y (.slice (some ⟨g, 0, none⟩) n n) → W.rowIs g 31 (4 * n) (fun j => .int .i8 (c j)) → Calls Try.prog 70 #[.pointer (some ⟨bq, 0, none⟩), .agg #[.int .i8 a0, .int .i8 a1, .int .i8 a2, .int .i8 a3]] W fun e w' => Below W.heap.size W w' ∧ e = .returned (.bool true)) (h60 : n < 60) :
    Calls Try.prog 23 #[.agg #[.int .i8 X, .int .i8 Y, .slice (some ⟨g, 0, none⟩) n n], .agg #[.int .i8 a0, .int .i8 a1, .int .i8 a2, .int .i8 a3]] w fun e w' => Below w.heap.size w w' ∧ ∃ v L, e = .returned (.tuple #[.agg #[.int .i8 X, .int .i8 Y, v], .int .i64 0]) ∧ SortedOf (putL c n (a0, a1, a2, a3)) L ∧ HasSlice .i8 4 w' w.heap.size v (n + 1) (fL L) := by
  have HC := Lib.hid hc
  clear hc
  have HCAN := Lib.hid hcan
  clear hcan
  go_enter Try.func23, Try.ntmps23
  go_wp2_with fail
  have HQ := ((Sq.new w X Y (.slice (some ⟨g, 0, none⟩) n n) 29).alloc (.cells #[.int .i8 a0, .int .i8 a1, .int .i8 a2, .int .i8 a3] 31)).alloc (.cells #[.int .i8 0, .int .i8 0, .slice none 0 0] 29)
  have H3 : Sl (((w.alloc (.cells #[.int .i8 X, .int .i8 Y, .slice (some ⟨g, 0, none⟩) n n] 29)).alloc (.cells #[.int .i8 a0, .int .i8 a1, .int .i8 a2, .int .i8 a3] 31)).alloc (.cells #[.int .i8 0, .int .i8 0, .slice none 0 0] 29)) (w.heap.size + 1) a0 a1 a2 a3 := by
    have := (Sl.new (w.alloc (.cells #[.int .i8 X, .int .i8 Y, .slice (some ⟨g, 0, none⟩) n n] 29)) a0 a1 a2 a3 31).alloc (.cells #[.int .i8 0, .int .i8 0, .slice none 0 0] 29)
    rwa [World.size_alloc] at this
  have H1 : Bx (((w.alloc (.cells #[.int .i8 X, .int .i8 Y, .slice (some ⟨g, 0, none⟩) n n] 29)).alloc (.cells #[.int .i8 a0, .int .i8 a1, .int .i8 a2, .int .i8 a3] 31)).alloc (.cells #[.int .i8 0, .int .i8 0, .slice none 0 0] 29)) (w.heap.size + 2) #[.int .i8 0, .int .i8 0, .slice none 0 0] 29 := by
    have := Bx.new ((w.alloc (.cells #[.int .i8 X, .int .i8 Y, .slice (some ⟨g, 0, none⟩) n n] 29)).alloc (.cells #[.int .i8 a0, .int .i8 a1, .int .i8 a2, .int .i8 a3] 31)) #[.int .i8 0, .int .i8 0, .slice none 0 0] 29
    rwa [World.size_alloc, World.size_alloc] at this
  have B := al (al (al (Below.refl w.heap.size w) (.cells #[.int .i8 X, .int .i8 Y, .slice (some ⟨g, 0, none⟩) n n] 29)) (.cells #[.int .i8 a0, .int .i8 a1, .int .i8 a2, .int .i8 a3] 31)) (.cells #[.int .i8 0, .int .i8 0, .slice none 0 0] 29)
  obtain ⟨W0, hW0⟩ : ∃ W0 : World, W0 = (((w.alloc (.cells #[.int .i8 X, .int .i8 Y, .slice (some ⟨g, 0, none⟩) n n] 29)).alloc (.cells #[.int .i8 a0, .int .i8 a1, .int .i8 a2, .int .i8 a3] 31)).alloc (.cells #[.int .i8 0, .int .i8 0, .slice none 0 0] 29)) := ⟨_, rfl⟩
  rw [← hW0] at HQ H3 H1 B ⊢
  clear hW0
  obtain ⟨lq, pq, qq, rq⟩ := id HQ
  obtain ⟨l3, p3, q3, r3, s3⟩ := id H3
  go_wp2_with fail
  refine (ok_any X Y w.heap.size g n c _ hX hY HC.out hm HQ (hrow.of_block (B.block _ hrow.lt))).mono ?_
  rintro e w1 ⟨hb, ⟨_, rfl⟩ | ⟨h, _⟩⟩
  case inr => exact absurd hv h
  clear lq pq qq rq l3 p3 q3 r3 s3
  replace HQ := HQ.below hb
  replace H3 := H3.below hb
  replace H1 := H1.below hb
  replace B := nxt B hb
  clear hb
  obtain ⟨lq, pq, qq, rq⟩ := id HQ
  obtain ⟨l3, p3, q3, r3, s3⟩ := id H3
  go_wp2_with fail
  refine (HCAN.out _ _ HQ (hrow.of_block (B.block _ hrow.lt))).mono ?_
  rintro e w2 ⟨hb, rfl⟩
  clear lq pq qq rq l3 p3 q3 r3 s3
  replace HQ := HQ.below hb
  replace H3 := H3.below hb
  replace H1 := H1.below hb
  replace B := nxt B hb
  clear hb
  obtain ⟨lq, pq, qq, rq⟩ := id HQ
  obtain ⟨l3, p3, q3, r3, s3⟩ := id H3
  have e60 : ((n : Int) == 60) = false := by simp; omega
  have d60 : decide ((n : Int) = 60) = false := by simp; omega
  go_wp2_with fail
  refine (put_any X Y w.heap.size g n c a0 a1 a2 a3 _ (by omega) HQ (hrow.of_block (B.block _ hrow.lt))).mono ?_
  rintro e w5 ⟨hb, v, L, rfl, hSo, A8, g8, cp8, S8⟩
  obtain rfl := S8.1
  have hsb := H1.lt
  clear lq pq qq rq l3 p3 q3 r3 s3
  replace HQ := HQ.below hb
  replace H3 := H3.below hb
  replace H1 := H1.below hb
  replace B := nxt B hb
  clear hb
  obtain ⟨lq, pq, qq, rq⟩ := id HQ
  obtain ⟨l3, p3, q3, r3, s3⟩ := id H3
  obtain ⟨p1, q1, r1⟩ := H1.cells3
  have f10 := H1.frozen 0
  have f11 := H1.frozen 1
  have f12 := H1.frozen 2
  have HSo := Lib.hid hSo
  have hS1 := S8.2.1
  have hS2 := S8.2.2
  have HS1 := Lib.hid hS1
  have HS2 := Lib.hid hS2
  clear hSo S8 hS1 hS2
  go_wp2_with fail
  have F1 := H1.set3 (.int .i8 X) (.int .i8 Y) (.slice A8 (n + 1 : Nat) cp8)
  have B3 := below_set3 (g := w.heap.size + 2) (v0 := .int .i8 X) (v1 := .int .i8 Y) (v2 := .slice A8 (n + 1 : Nat) cp8) B (by omega)
  obtain ⟨x1, y1, z1⟩ := F1.cells3
  refine bodyPost_ret (v := .tuple #[.agg #[.int .i8 X, .int .i8 Y, .slice A8 (n + 1 : Nat) cp8], .int .i64 0]) (by simp [results, Try.results23, go_sem, x1, y1, z1]) rfl ⟨B3, _, L, rfl, HSo.out, A8, g8, cp8, SliceOf.kept (w := w5) ⟨rfl, fun h => ⟨(HS1.out h).1, by have := (HS1.out h).2.1; omega, (HS1.out h).2.2⟩, HS2.out⟩ (by simp) (fun h => blk3 (by have := (HS1.out h).2.1; omega))⟩
theorem both (X Y : Int) (n : Nat) (c : Nat → Int) (a0 a1 a2 a3 : Int) (hX : -128 ≤ X ∧ X ≤ 127) (hY : -128 ≤ Y ∧ Y ≤ 127) (hc : ∀ j, -128 ≤ c j ∧ c j ≤ 127) (b0 : -128 ≤ a0 ∧ a0 ≤ 127) (b1 : -128 ≤ a1 ∧ a1 ≤ 127) (b2 : -128 ≤ a2 ∧ a2 ≤ 127) (b3 : -128 ≤ a3 ∧ a3 ≤ 127) (hm : n ≤ 1048576) :
    ∃ (rx ry r1 : Int) (nn : Nat) (ff : Nat → Int), nn ≤ 1000 ∧
      (∀ (W : World) (g : Nat), W.rowIs g 31 (4 * n) (fun j => .int .i8 (c j)) → Calls Try.prog 23 #[.agg #[.int .i8 X, .int .i8 Y, .slice (some ⟨g, 0, none⟩) n n], .agg #[.int .i8 a0, .int .i8 a1, .int .i8 a2, .int .i8 a3]] W fun e w' => Below W.heap.size W w' ∧ ∃ v, e = .returned (.tuple #[.agg #[.int .i8 rx, .int .i8 ry, v], .int .i64 r1]) ∧ HasSlice .i8 4 w' W.heap.size v nn ff) ∧
      (∀ (W : World) (g : Nat), W.rowIs g 31 (4 * n) (fun j => .int .i8 (c j)) → Calls Try.prog 25 #[.agg #[.int .i8 X, .int .i8 Y, .slice (some ⟨g, 0, none⟩) n n], .agg #[.int .i8 a0, .int .i8 a1, .int .i8 a2, .int .i8 a3]] W fun e w' => Below W.heap.size W w' ∧ ∃ v, e = .returned (.tuple #[.agg #[.int .i8 rx, .int .i8 ry, v], .int .i64 r1]) ∧ HasSlice .i8 4 w' W.heap.size v nn ff) := by
  have same : ∀ (code : Int), (∀ (W : World) (g : Nat), W.rowIs g 31 (4 * n) (fun j => .int .i8 (c j)) → Calls Try.prog 23 #[.agg #[.int .i8 X, .int .i8 Y, .slice (some ⟨g, 0, none⟩) n n], .agg #[.int .i8 a0, .int .i8 a1, .int .i8 a2, .int .i8 a3]] W fun e w' => Below W.heap.size W w' ∧ ∃ v, e = .returned (.tuple #[.agg #[.int .i8 0, .int .i8 0, v], .int .i64 code]) ∧ HasSlice .i8 4 w' W.heap.size v 0 (fL [])) → (∀ (W : World) (g : Nat), W.rowIs g 31 (4 * n) (fun j => .int .i8 (c j)) → Calls Try.prog 25 #[.agg #[.int .i8 X, .int .i8 Y, .slice (some ⟨g, 0, none⟩) n n], .agg #[.int .i8 a0, .int .i8 a1, .int .i8 a2, .int .i8 a3]] W fun e w' => Below W.heap.size W w' ∧ ∃ v, e = .returned (.tuple #[.agg #[.int .i8 0, .int .i8 0, v], .int .i64 code]) ∧ HasSlice .i8 4 w' W.heap.size v 0 (fL [])) →
      ∃ (rx ry r1 : Int) (nn : Nat) (ff : Nat → Int), nn ≤ 1000 ∧
      (∀ (W : World) (g : Nat), W.rowIs g 31 (4 * n) (fun j => .int .i8 (c j)) → Calls Try.prog 23 #[.agg #[.int .i8 X, .int .i8 Y, .slice (some ⟨g, 0, none⟩) n n], .agg #[.int .i8 a0, .int .i8 a1, .int .i8 a2, .int .i8 a3]] W fun e w' => Below W.heap.size W w' ∧ ∃ v, e = .returned (.tuple #[.agg #[.int .i8 rx, .int .i8 ry, v], .int .i64 r1]) ∧ HasSlice .i8 4 w' W.heap.size v nn ff) ∧
      (∀ (W : World) (g : Nat), W.rowIs g 31 (4 * n) (fun j => .int .i8 (c j)) → Calls Try.prog 25 #[.agg #[.int .i8 X, .int .i8 Y, .slice (some ⟨g, 0, none⟩) n n], .agg #[.int .i8 a0, .int .i8 a1, .int .i8 a2, .int .i8 a3]] W fun e w' => Below W.heap.size W w' ∧ ∃ v, e = .returned (.tuple #[.agg #[.int .i8 rx, .int .i8 ry, v], .int .i64 r1]) ∧ HasSlice .i8 4 w' W.heap.size v nn ff) := fun code h1 h2 => ⟨0, 0, code, 0, fL [], by omega, h1, h2⟩
  by_cases hv : Valid X Y n c
  · have hn60 := hv.2.2.2.2.1
    by_cases hl : 0 ≤ a0 ∧ 0 ≤ a1 ∧ 1 ≤ a2 ∧ 1 ≤ a3 ∧ a0 + a2 ≤ X ∧ a1 + a3 ≤ Y
    · obtain ⟨x0, rfl⟩ := Int.eq_ofNat_of_zero_le hl.1
      obtain ⟨y0, rfl⟩ := Int.eq_ofNat_of_zero_le hl.2.1
      obtain ⟨wd, rfl⟩ := Int.eq_ofNat_of_zero_le (show 0 ≤ a2 by omega)
      obtain ⟨ht, rfl⟩ := Int.eq_ofNat_of_zero_le (show 0 ≤ a3 by omega)
      have hx : x0 + wd ≤ 12 := by have := hv.2.1; omega
      have hy : y0 + ht ≤ 12 := by have := hv.2.2.2.1; omega
      have e0 := ext0 c n (x0 : Int) y0 wd ht
      have e1 := ext1 c n (x0 : Int) y0 wd ht
      have e2 := ext2 c n (x0 : Int) y0 wd ht
      have e3 := ext3 c n (x0 : Int) y0 wd ht
      have hcx := gridN_ext c n (x0 : Int) y0 wd ht
      obtain ⟨r, hr⟩ : ∃ r : Bool, r = true ↔ opn (ext c n (x0 : Int) y0 wd ht) n := by
        by_cases ho : opn (ext c n (x0 : Int) y0 wd ht) n
        · exact ⟨true, fun _ => ho, fun _ => rfl⟩
        · exact ⟨false, fun h => (by cases h), fun h => absurd h ho⟩
      have HI : ∀ (g : Nat) (W : World), W.rowIs g 31 (4 * n) (fun j => .int .i8 (c j)) → Calls Try.prog 72 #[.agg #[.int .i8 X, .int .i8 Y, .slice (some ⟨g, 0, none⟩) n n], .agg #[.int .i8 (x0 : Int), .int .i8 (y0 : Int), .int .i8 (wd : Int), .int .i8 (ht : Int)]] W fun e w' => e = .returned (.tuple #[.bool r, .int .i64 0]) ∧ Below W.heap.size W w' :=
        fun g W R => canPut.impl_in X Y g n x0 y0 wd ht c _ W hX hY hc hm R hv e0 e1 e2 e3 hcx hx hy hl r hr
      have HS : ∀ (g : Nat) (W : World) (bq : Nat), Sq W bq X Y (.slice (some ⟨g, 0, none⟩) n n) → W.rowIs g 31 (4 * n) (fun j => .int .i8 (c j)) → Calls Try.prog 70 #[.pointer (some ⟨bq, 0, none⟩), .agg #[.int .i8 (x0 : Int), .int .i8 (y0 : Int), .int .i8 (wd : Int), .int .i8 (ht : Int)]] W fun e w' => Below W.heap.size W w' ∧ e = .returned (.bool r) := by
        intro g W' bq hq R'
        refine (can_in X Y bq g n x0 y0 wd ht c _ W' hX hY hc hm hq R' hv e0 e1 e2 e3 hcx hx hy hl).mono ?_
        rintro e w1 ⟨hb, ⟨ho, rfl⟩ | ⟨ho, rfl⟩⟩
        · rw [hr.2 ho]; exact ⟨hb, rfl⟩
        · rw [Bool.eq_false_iff.2 (fun h' => ho (hr.1 h'))]; exact ⟨hb, rfl⟩
      cases r with
      | false => exact same 4 (fun W g R => spec_no X Y g n c _ _ _ _ W hX hY hc hm R hv (HS g)) (fun W g R => impl_no X Y g n c _ _ _ _ W hX hY hc hm R (HI g))
      | true =>
        by_cases h60 : n = 60
        · exact same 3 (fun W g R => spec_full X Y g n c _ _ _ _ W hX hY hc hm R hv (HS g) h60) (fun W g R => impl_full X Y g n c _ _ _ _ W hX hY hc hm R (HI g) h60)
        · have hap := apart_put hv hx hy (by omega) (by omega) (hr.1 rfl)
          obtain ⟨L, hL⟩ := exists_sorted (putL c n ((x0 : Int), (y0 : Int), (wd : Int), (ht : Int)))
          refine ⟨X, Y, 0, n + 1, fL L, by omega, fun W g R => (putSlab.spec_in X Y g n c _ _ _ _ W hX hY hc hm R hv (HS g) (by omega)).mono ?_, fun W g R => (putSlab.impl_in X Y g n c _ _ _ _ W hX hY hc hm R (HI g) (by omega)).mono ?_⟩
          · rintro e w' ⟨hb, v, M, rfl, hM, O⟩
            obtain rfl := SortedOf.unique hM hL hap
            exact ⟨hb, v, rfl, O⟩
          · rintro e w' ⟨hb, v, M, rfl, hM, O⟩
            obtain rfl := SortedOf.unique hM hL hap
            exact ⟨hb, v, rfl, O⟩
    · exact same 4 (fun W g R => spec_no X Y g n c a0 a1 a2 a3 W hX hY hc hm R hv (fun W' bq hq _ => can_out X Y bq g n c a0 a1 a2 a3 W' hX hY b0 b1 b2 b3 hq hl)) (fun W g R => impl_no X Y g n c a0 a1 a2 a3 W hX hY hc hm R (fun W' R' => canPut.impl_out X Y g n c a0 a1 a2 a3 W' hX hY hc hm R' hv b0 b1 b2 b3 hl))
  · exact same 1 (fun W g R => putSlab.spec_bad X Y g n c a0 a1 a2 a3 W hX hY hc hm R hv) (fun W g R => putSlab.impl_bad X Y g n c a0 a1 a2 a3 W hX hY hc hm R (fun W' R' => canPut.impl_bad X Y g n c a0 a1 a2 a3 W' hX hY hc hm R' hv))
end Go.Proofs.Yteebkookoidheaa.putSlab
