/-
  The part of a slab within another one: what both sides answer. Conditions stand at each.
-/
import Derived.Test.YteebkookoidheaaRows
import Derived.Test.YteebkookoidheaaApart
import Derived.Test.YteebkookoidheaaRet
import Derived.Test.YteebkookoidheaaTold
import Derived.Deep.RegionHeld3
import Derived.Deep.RegionHeldLaw
import Derived.Deep.DeepCutAuto
namespace Go.Proofs.Yteebkookoidheaa
open Go Go.ChangeShapes Go.WideShapes Go.ChangeAt Go.RowKit
set_option linter.unusedVariables false
set_option linter.unusedSimpArgs false
set_option maxRecDepth 100000
set_option maxHeartbeats 2000000

theorem max_any (a b M : Int) (w : World) (h : (b < a ∧ M = a) ∨ (a ≤ b ∧ M = b)) : Calls Try.prog 113 #[.int .i64 a, .int .i64 b] w fun e w' => e = .returned (.int .i64 M) ∧ Below w.heap.size w w' := by
  rcases h with ⟨h, rfl⟩ | ⟨h, rfl⟩
  · have d : decide (b < M) = true := by simpa using h
    go_enter Try.func113, Try.ntmps113
    go_wp2_with fail
    go_ret
    exact ⟨rfl, Below.refl _ _⟩
  · have d : decide (M < a) = false := by simpa using h
    go_enter Try.func113, Try.ntmps113
    go_wp2_with fail
    go_ret
    exact ⟨rfl, Below.refl _ _⟩
theorem min_any (a b M : Int) (w : World) (h : (a < b ∧ M = a) ∨ (b ≤ a ∧ M = b)) : Calls Try.prog 114 #[.int .i64 a, .int .i64 b] w fun e w' => e = .returned (.int .i64 M) ∧ Below w.heap.size w w' := by
  rcases h with ⟨h, rfl⟩ | ⟨h, rfl⟩
  · have d : decide (M < b) = true := by simpa using h
    go_enter Try.func114, Try.ntmps114
    go_wp2_with fail
    go_ret
    exact ⟨rfl, Below.refl _ _⟩
  · have d : decide (a < M) = false := by simpa using h
    go_enter Try.func114, Try.ntmps114
    go_wp2_with fail
    go_ret
    exact ⟨rfl, Below.refl _ _⟩
/-- the part's west, north, east and south edges. -/
def Edges (sx sy sw sh hx hy hw hh pl pt pr pb : Int) : Prop :=
  ((hx < sx ∧ pl = sx) ∨ (sx ≤ hx ∧ pl = hx)) ∧ ((hy < sy ∧ pt = sy) ∨ (sy ≤ hy ∧ pt = hy)) ∧
  ((sx + sw < hx + hw ∧ pr = sx + sw) ∨ (hx + hw ≤ sx + sw ∧ pr = hx + hw)) ∧ ((sy + sh < hy + hh ∧ pb = sy + sh) ∨ (hy + hh ≤ sy + sh ∧ pb = hy + hh))
/-- numbers as a slab of a square has them. -/
def Low (x y z u : Int) : Prop := 0 ≤ x ∧ 0 ≤ y ∧ 1 ≤ z ∧ 1 ≤ u ∧ x + z ≤ 12 ∧ y + u ≤ 12
theorem partS_any (sx sy sw sh hx hy hw hh pl pt pr pb : Int) (w : World) (ls : Low sx sy sw sh) (lh : Low hx hy hw hh) (he : Edges sx sy sw sh hx hy hw hh pl pt pr pb) :
    Calls Try.prog 76 #[.agg #[.int .i8 sx, .int .i8 sy, .int .i8 sw, .int .i8 sh], .agg #[.int .i8 hx, .int .i8 hy, .int .i8 hw, .int .i8 hh]] w fun e w' => Below w.heap.size w w' ∧ ((pl < pr ∧ pt < pb ∧ e = .returned (.tuple #[.agg #[.int .i8 pl, .int .i8 pt, .int .i8 (pr - pl), .int .i8 (pb - pt)], .bool true])) ∨ (¬ (pl < pr ∧ pt < pb) ∧ e = .returned (.tuple #[.agg #[.int .i8 0, .int .i8 0, .int .i8 0, .int .i8 0], .bool false]))) := by
  obtain ⟨he1, he2, he3, he4⟩ := he
  have bpl : 0 ≤ pl ∧ pl ≤ 12 := by unfold Low at ls lh; omega
  have bpt : 0 ≤ pt ∧ pt ≤ 12 := by unfold Low at ls lh; omega
  have bpr : 0 ≤ pr ∧ pr ≤ 12 := by unfold Low at ls lh; omega
  have bpb : 0 ≤ pb ∧ pb ≤ 12 := by unfold Low at ls lh; omega
  have g1 : IntKind.i64.wrap (sx + sw) = sx + sw := IntWalk.i64_in _ (by unfold Low at ls lh; omega)
  have g2 : IntKind.i64.wrap (hx + hw) = hx + hw := IntWalk.i64_in _ (by unfold Low at ls lh; omega)
  have g3 : IntKind.i64.wrap (sy + sh) = sy + sh := IntWalk.i64_in _ (by unfold Low at ls lh; omega)
  have g4 : IntKind.i64.wrap (hy + hh) = hy + hh := IntWalk.i64_in _ (by unfold Low at ls lh; omega)
  have gsx : IntKind.i64.wrap sx = sx := IntWalk.i64_in _ (by unfold Low at ls lh; omega)
  have gsy : IntKind.i64.wrap sy = sy := IntWalk.i64_in _ (by unfold Low at ls lh; omega)
  have gsw : IntKind.i64.wrap sw = sw := IntWalk.i64_in _ (by unfold Low at ls lh; omega)
  have gsh : IntKind.i64.wrap sh = sh := IntWalk.i64_in _ (by unfold Low at ls lh; omega)
  have ghx : IntKind.i64.wrap hx = hx := IntWalk.i64_in _ (by unfold Low at ls lh; omega)
  have ghy : IntKind.i64.wrap hy = hy := IntWalk.i64_in _ (by unfold Low at ls lh; omega)
  have ghw : IntKind.i64.wrap hw = hw := IntWalk.i64_in _ (by unfold Low at ls lh; omega)
  have ghh : IntKind.i64.wrap hh = hh := IntWalk.i64_in _ (by unfold Low at ls lh; omega)
  have G1 := Lib.hid he1
  have G2 := Lib.hid he2
  have G3 := Lib.hid he3
  have G4 := Lib.hid he4
  have LS := Lib.hid ls
  have LH := Lib.hid lh
  clear he1 he2 he3 he4 ls lh
  go_enter Try.func76, Try.ntmps76
  go_upto_region 1 with fail
  have H2 := ((Sl.new w sx sy sw sh 31).alloc (.cells #[.int .i8 hx, .int .i8 hy, .int .i8 hw, .int .i8 hh] 31)).alloc (.cells #[.int .i8 0, .int .i8 0, .int .i8 0, .int .i8 0] 31)
  have H3 : Sl (((w.alloc (.cells #[.int .i8 sx, .int .i8 sy, .int .i8 sw, .int .i8 sh] 31)).alloc (.cells #[.int .i8 hx, .int .i8 hy, .int .i8 hw, .int .i8 hh] 31)).alloc (.cells #[.int .i8 0, .int .i8 0, .int .i8 0, .int .i8 0] 31)) (w.heap.size + 1) hx hy hw hh := by
    have := (Sl.new (w.alloc (.cells #[.int .i8 sx, .int .i8 sy, .int .i8 sw, .int .i8 sh] 31)) hx hy hw hh 31).alloc (.cells #[.int .i8 0, .int .i8 0, .int .i8 0, .int .i8 0] 31)
    rwa [World.size_alloc] at this
  have H1 : Bx (((w.alloc (.cells #[.int .i8 sx, .int .i8 sy, .int .i8 sw, .int .i8 sh] 31)).alloc (.cells #[.int .i8 hx, .int .i8 hy, .int .i8 hw, .int .i8 hh] 31)).alloc (.cells #[.int .i8 0, .int .i8 0, .int .i8 0, .int .i8 0] 31)) (w.heap.size + 2) #[.int .i8 0, .int .i8 0, .int .i8 0, .int .i8 0] 31 := by
    have := Bx.new ((w.alloc (.cells #[.int .i8 sx, .int .i8 sy, .int .i8 sw, .int .i8 sh] 31)).alloc (.cells #[.int .i8 hx, .int .i8 hy, .int .i8 hw, .int .i8 hh] 31)) #[.int .i8 0, .int .i8 0, .int .i8 0, .int .i8 0] 31
    rwa [World.size_alloc, World.size_alloc] at this
  have B := al (al (al (Below.refl w.heap.size w) (.cells #[.int .i8 sx, .int .i8 sy, .int .i8 sw, .int .i8 sh] 31)) (.cells #[.int .i8 hx, .int .i8 hy, .int .i8 hw, .int .i8 hh] 31)) (.cells #[.int .i8 0, .int .i8 0, .int .i8 0, .int .i8 0] 31)
  obtain ⟨W0, hW0⟩ : ∃ W0 : World, W0 = (((w.alloc (.cells #[.int .i8 sx, .int .i8 sy, .int .i8 sw, .int .i8 sh] 31)).alloc (.cells #[.int .i8 hx, .int .i8 hy, .int .i8 hw, .int .i8 hh] 31)).alloc (.cells #[.int .i8 0, .int .i8 0, .int .i8 0, .int .i8 0] 31)) := ⟨_, rfl⟩
  rw [← hW0] at H2 H3 H1 B ⊢
  clear hW0
  obtain ⟨l2, p2, q2, r2, s2⟩ := id H2
  obtain ⟨l3, p3, q3, r3, s3⟩ := id H3
  go_wp2_with fail
  refine (max_any _ _ pl _ G1.out).mono ?_
  rintro e w1 ⟨rfl, hb⟩
  clear l2 p2 q2 r2 s2 l3 p3 q3 r3 s3
  replace H2 := H2.below hb
  replace H3 := H3.below hb
  replace H1 := H1.below hb
  replace B := nxt B hb
  clear hb
  obtain ⟨l2, p2, q2, r2, s2⟩ := id H2
  obtain ⟨l3, p3, q3, r3, s3⟩ := id H3
  go_wp2_with fail
  refine (max_any _ _ pt _ G2.out).mono ?_
  rintro e w2 ⟨rfl, hb⟩
  clear l2 p2 q2 r2 s2 l3 p3 q3 r3 s3
  replace H2 := H2.below hb
  replace H3 := H3.below hb
  replace H1 := H1.below hb
  replace B := nxt B hb
  clear hb
  obtain ⟨l2, p2, q2, r2, s2⟩ := id H2
  obtain ⟨l3, p3, q3, r3, s3⟩ := id H3
  go_wp2_with fail
  refine (min_any _ _ pr _ G3.out).mono ?_
  rintro e w3 ⟨rfl, hb⟩
  clear l2 p2 q2 r2 s2 l3 p3 q3 r3 s3
  replace H2 := H2.below hb
  replace H3 := H3.below hb
  replace H1 := H1.below hb
  replace B := nxt B hb
  clear hb
  obtain ⟨l2, p2, q2, r2, s2⟩ := id H2
  obtain ⟨l3, p3, q3, r3, s3⟩ := id H3
  go_wp2_with fail
  refine (min_any _ _ pb _ G4.out).mono ?_
  rintro e w4 ⟨rfl, hb⟩
  clear l2 p2 q2 r2 s2 l3 p3 q3 r3 s3
  replace H2 := H2.below hb
  replace H3 := H3.below hb
  replace H1 := H1.below hb
  replace B := nxt B hb
  clear hb
  obtain ⟨l2, p2, q2, r2, s2⟩ := id H2
  obtain ⟨l3, p3, q3, r3, s3⟩ := id H3
  by_cases h1 : pl < pr
  · have d1 : decide (pr ≤ pl) = false := by simp; omega
    by_cases h2 : pt < pb
    · have d2 : decide (pb ≤ pt) = false := by simp; omega
      have k1 : IntKind.i64.wrap (pr - pl) = pr - pl := IntWalk.i64_in _ (by omega)
      have k2 : IntKind.i64.wrap (pb - pt) = pb - pt := IntWalk.i64_in _ (by omega)
      have k3 : IntKind.i8.wrap (pr - pl) = pr - pl := IntWalk.i8_in _ (by omega)
      have k4 : IntKind.i8.wrap (pb - pt) = pb - pt := IntWalk.i8_in _ (by omega)
      have k5 : IntKind.i8.wrap pl = pl := IntWalk.i8_in _ (by omega)
      have k6 : IntKind.i8.wrap pt = pt := IntWalk.i8_in _ (by omega)
      obtain ⟨p1, q1, r1, s1⟩ := H1.cells4
      have f10 := H1.frozen 0
      have f11 := H1.frozen 1
      have f12 := H1.frozen 2
      have f13 := H1.frozen 3
      go_wp2_with fail
      have F1 := H1.set4 (.int .i8 pl) (.int .i8 pt) (.int .i8 (pr - pl)) (.int .i8 (pb - pt))
      have B3 := below_set4 (g := w.heap.size + 2) (v0 := .int .i8 pl) (v1 := .int .i8 pt) (v2 := .int .i8 (pr - pl)) (v3 := .int .i8 (pb - pt)) B (by omega)
      obtain ⟨x1, y1, z1, u1⟩ := F1.cells4
      refine bodyPost_ret (v := .tuple #[.agg #[.int .i8 pl, .int .i8 pt, .int .i8 (pr - pl), .int .i8 (pb - pt)], .bool true]) (by simp [results, Try.results76, go_sem, x1, y1, z1, u1]) rfl ⟨B3, .inl ⟨h1, h2, rfl⟩⟩
    · have d2 : decide (pb ≤ pt) = true := by simp; omega
      obtain ⟨p1, q1, r1, s1⟩ := H1.cells4
      have f10 := H1.frozen 0
      have f11 := H1.frozen 1
      have f12 := H1.frozen 2
      have f13 := H1.frozen 3
      go_wp2_with fail
      have F1 := H1.set4 (.int .i8 0) (.int .i8 0) (.int .i8 0) (.int .i8 0)
      have B3 := below_set4 (g := w.heap.size + 2) (v0 := .int .i8 0) (v1 := .int .i8 0) (v2 := .int .i8 0) (v3 := .int .i8 0) B (by omega)
      obtain ⟨x1, y1, z1, u1⟩ := F1.cells4
      refine bodyPost_ret (v := .tuple #[.agg #[.int .i8 0, .int .i8 0, .int .i8 0, .int .i8 0], .bool false]) (by simp [results, Try.results76, go_sem, x1, y1, z1, u1]) rfl ⟨B3, .inr ⟨fun h => by omega, rfl⟩⟩
  · have d1 : decide (pr ≤ pl) = true := by simp; omega
    obtain ⟨p1, q1, r1, s1⟩ := H1.cells4
    have f10 := H1.frozen 0
    have f11 := H1.frozen 1
    have f12 := H1.frozen 2
    have f13 := H1.frozen 3
    go_wp2_with fail
    have F1 := H1.set4 (.int .i8 0) (.int .i8 0) (.int .i8 0) (.int .i8 0)
    have B3 := below_set4 (g := w.heap.size + 2) (v0 := .int .i8 0) (v1 := .int .i8 0) (v2 := .int .i8 0) (v3 := .int .i8 0) B (by omega)
    obtain ⟨x1, y1, z1, u1⟩ := F1.cells4
    refine bodyPost_ret (v := .tuple #[.agg #[.int .i8 0, .int .i8 0, .int .i8 0, .int .i8 0], .bool false]) (by simp [results, Try.results76, go_sem, x1, y1, z1, u1]) rfl ⟨B3, .inr ⟨fun h => by omega, rfl⟩⟩
theorem partI_any (sx sy sw sh hx hy hw hh pl pt pr pb : Int) (w : World) (ls : Low sx sy sw sh) (lh : Low hx hy hw hh) (he : Edges sx sy sw sh hx hy hw hh pl pt pr pb) :
    Calls Try.prog 78 #[.agg #[.int .i8 sx, .int .i8 sy, .int .i8 sw, .int .i8 sh], .agg #[.int .i8 hx, .int .i8 hy, .int .i8 hw, .int .i8 hh]] w fun e w' => Below w.heap.size w w' ∧ ((pl < pr ∧ pt < pb ∧ e = .returned (.tuple #[.agg #[.int .i8 (pl - hx), .int .i8 (pt - hy), .int .i8 (pr - pl), .int .i8 (pb - pt)], .bool true])) ∨ (¬ (pl < pr ∧ pt < pb) ∧ e = .returned (.tuple #[.agg #[.int .i8 0, .int .i8 0, .int .i8 0, .int .i8 0], .bool false]))) := by
  obtain ⟨he1, he2, he3, he4⟩ := he
  have bpl : 0 ≤ pl ∧ pl ≤ 12 ∧ 0 ≤ pl - hx ∧ pl - hx ≤ 12 := by unfold Low at ls lh; omega
  have bpt : 0 ≤ pt ∧ pt ≤ 12 ∧ 0 ≤ pt - hy ∧ pt - hy ≤ 12 := by unfold Low at ls lh; omega
  have bpr : 0 ≤ pr ∧ pr ≤ 12 := by unfold Low at ls lh; omega
  have bpb : 0 ≤ pb ∧ pb ≤ 12 := by unfold Low at ls lh; omega
  have g1 : IntKind.i8.wrap (sx + sw) = sx + sw := IntWalk.i8_in _ (by unfold Low at ls lh; omega)
  have g2 : IntKind.i8.wrap (hx + hw) = hx + hw := IntWalk.i8_in _ (by unfold Low at ls lh; omega)
  have g3 : IntKind.i8.wrap (sy + sh) = sy + sh := IntWalk.i8_in _ (by unfold Low at ls lh; omega)
  have g4 : IntKind.i8.wrap (hy + hh) = hy + hh := IntWalk.i8_in _ (by unfold Low at ls lh; omega)
  have k3 : IntKind.i8.wrap (pr - pl) = pr - pl := IntWalk.i8_in _ (by omega)
  have k4 : IntKind.i8.wrap (pb - pt) = pb - pt := IntWalk.i8_in _ (by omega)
  have k5 : IntKind.i8.wrap (pl - hx) = pl - hx := IntWalk.i8_in _ (by omega)
  have k6 : IntKind.i8.wrap (pt - hy) = pt - hy := IntWalk.i8_in _ (by omega)
  have m1 : max sx hx = pl := by omega
  have m2 : max sy hy = pt := by omega
  have m3 : min (sx + sw) (hx + hw) = pr := by omega
  have m4 : min (sy + sh) (hy + hh) = pb := by omega
  clear ls lh he1 he2 he3 he4
  go_enter Try.func78, Try.ntmps78
  go_wp2_with fail
  have H2 := ((Sl.new w sx sy sw sh 31).alloc (.cells #[.int .i8 hx, .int .i8 hy, .int .i8 hw, .int .i8 hh] 31)).alloc (.cells #[.int .i8 0, .int .i8 0, .int .i8 0, .int .i8 0] 31)
  have H3 : Sl (((w.alloc (.cells #[.int .i8 sx, .int .i8 sy, .int .i8 sw, .int .i8 sh] 31)).alloc (.cells #[.int .i8 hx, .int .i8 hy, .int .i8 hw, .int .i8 hh] 31)).alloc (.cells #[.int .i8 0, .int .i8 0, .int .i8 0, .int .i8 0] 31)) (w.heap.size + 1) hx hy hw hh := by
    have := (Sl.new (w.alloc (.cells #[.int .i8 sx, .int .i8 sy, .int .i8 sw, .int .i8 sh] 31)) hx hy hw hh 31).alloc (.cells #[.int .i8 0, .int .i8 0, .int .i8 0, .int .i8 0] 31)
    rwa [World.size_alloc] at this
  have H1 : Bx (((w.alloc (.cells #[.int .i8 sx, .int .i8 sy, .int .i8 sw, .int .i8 sh] 31)).alloc (.cells #[.int .i8 hx, .int .i8 hy, .int .i8 hw, .int .i8 hh] 31)).alloc (.cells #[.int .i8 0, .int .i8 0, .int .i8 0, .int .i8 0] 31)) (w.heap.size + 2) #[.int .i8 0, .int .i8 0, .int .i8 0, .int .i8 0] 31 := by
    have := Bx.new ((w.alloc (.cells #[.int .i8 sx, .int .i8 sy, .int .i8 sw, .int .i8 sh] 31)).alloc (.cells #[.int .i8 hx, .int .i8 hy, .int .i8 hw, .int .i8 hh] 31)) #[.int .i8 0, .int .i8 0, .int .i8 0, .int .i8 0] 31
    rwa [World.size_alloc, World.size_alloc] at this
  have B := al (al (al (Below.refl w.heap.size w) (.cells #[.int .i8 sx, .int .i8 sy, .int .i8 sw, .int .i8 sh] 31)) (.cells #[.int .i8 hx, .int .i8 hy, .int .i8 hw, .int .i8 hh] 31)) (.cells #[.int .i8 0, .int .i8 0, .int .i8 0, .int .i8 0] 31)
  obtain ⟨W0, hW0⟩ : ∃ W0 : World, W0 = (((w.alloc (.cells #[.int .i8 sx, .int .i8 sy, .int .i8 sw, .int .i8 sh] 31)).alloc (.cells #[.int .i8 hx, .int .i8 hy, .int .i8 hw, .int .i8 hh] 31)).alloc (.cells #[.int .i8 0, .int .i8 0, .int .i8 0, .int .i8 0] 31)) := ⟨_, rfl⟩
  rw [← hW0] at H2 H3 H1 B ⊢
  clear hW0
  replace B := B.drew
  replace H2 : Sl W0.drew w.heap.size sx sy sw sh := H2
  replace H3 : Sl W0.drew (w.heap.size + 1) hx hy hw hh := H3
  replace H1 : Bx W0.drew (w.heap.size + 2) #[.int .i8 0, .int .i8 0, .int .i8 0, .int .i8 0] 31 := H1
  obtain ⟨l2, p2, q2, r2, s2⟩ := id H2
  obtain ⟨l3, p3, q3, r3, s3⟩ := id H3
  refine wp_region_held_drew (S := (fun w' => w'.cell? ⟨w.heap.size, 0, none⟩ = some (.int .i8 sx) ∧ w'.cell? ⟨w.heap.size, 1, none⟩ = some (.int .i8 sy) ∧ w'.cell? ⟨w.heap.size, 2, none⟩ = some (.int .i8 sw) ∧ w'.cell? ⟨w.heap.size, 3, none⟩ = some (.int .i8 sh) ∧ w'.cell? ⟨w.heap.size + 1, 0, none⟩ = some (.int .i8 hx) ∧ w'.cell? ⟨w.heap.size + 1, 1, none⟩ = some (.int .i8 hy) ∧ w'.cell? ⟨w.heap.size + 1, 2, none⟩ = some (.int .i8 hw) ∧ w'.cell? ⟨w.heap.size + 1, 3, none⟩ = some (.int .i8 hh))) (by kernel_rfl) ⟨p2, q2, r2, s2, p3, q3, r3, s3⟩ (fun hHeld => ?_)
  obtain ⟨wd, hwd⟩ : ∃ wd, W0.drew = wd := ⟨_, rfl⟩
  rw [hwd] at hHeld B H2 H3 H1 l2 p2 q2 r2 s2 l3 p3 q3 r3 s3 ⊢
  clear hwd
  refine wpAnyH_take (i := 0) (oi := _) (v := ?_) rfl (by kernel_rfl) (by kernel_rfl) (by kernel_rfl) (fun _ _ _ h => h) (Or.inl ⟨by kernel_rfl, ?_⟩) (by assumption) ?_
  rotate_left
  · intro w hSw; (try dsimp only at hSw); go_simp; first | done | with_reducible rfl
  try simp only [List.getElem_toArray, List.getElem_cons_zero, List.getElem_cons_succ, Act.put, List.setIfInBounds_toArray, List.set_cons_zero, List.set_cons_succ]
  refine wpAnyH_take (i := 1) (oi := _) (v := ?_) rfl (by kernel_rfl) (by kernel_rfl) (by kernel_rfl) (fun _ _ _ h => h) (Or.inl ⟨by kernel_rfl, ?_⟩) (by assumption) ?_
  rotate_left
  · intro w hSw; (try dsimp only at hSw); go_simp; first | done | with_reducible rfl
  try simp only [List.getElem_toArray, List.getElem_cons_zero, List.getElem_cons_succ, Act.put, List.setIfInBounds_toArray, List.set_cons_zero, List.set_cons_succ]
  refine wpAnyH_take (i := 2) (oi := _) (v := ?_) rfl (by kernel_rfl) (by kernel_rfl) (by kernel_rfl) (fun _ _ _ h => h) (Or.inl ⟨by kernel_rfl, ?_⟩) (by assumption) ?_
  rotate_left
  · intro w hSw; (try dsimp only at hSw); go_simp; first | done | with_reducible rfl
  try simp only [List.getElem_toArray, List.getElem_cons_zero, List.getElem_cons_succ, Act.put, List.setIfInBounds_toArray, List.set_cons_zero, List.set_cons_succ]
  refine wpAnyH_take (i := 3) (oi := _) (v := ?_) rfl (by kernel_rfl) (by kernel_rfl) (by kernel_rfl) (fun _ _ _ h => h) (Or.inl ⟨by kernel_rfl, ?_⟩) (by assumption) ?_
  rotate_left
  · intro w hSw; (try dsimp only at hSw); go_simp; first | done | with_reducible rfl
  try simp only [List.getElem_toArray, List.getElem_cons_zero, List.getElem_cons_succ, Act.put, List.setIfInBounds_toArray, List.set_cons_zero, List.set_cons_succ]
  refine wpAnyH_take (i := 4) (oi := _) (v := ?_) rfl (by kernel_rfl) (by kernel_rfl) (by kernel_rfl) (fun _ _ _ h => h) (Or.inl ⟨by kernel_rfl, ?_⟩) (by assumption) ?_
  rotate_left
  · intro w hSw; (try dsimp only at hSw); go_simp; first | done | with_reducible rfl
  try simp only [List.getElem_toArray, List.getElem_cons_zero, List.getElem_cons_succ, Act.put, List.setIfInBounds_toArray, List.set_cons_zero, List.set_cons_succ]
  refine wpAnyH_take (i := 5) (oi := _) (v := ?_) rfl (by kernel_rfl) (by kernel_rfl) (by kernel_rfl) (fun _ _ _ h => h) (Or.inl ⟨by kernel_rfl, ?_⟩) (by assumption) ?_
  rotate_left
  · intro w hSw; (try dsimp only at hSw); go_simp; first | done | with_reducible rfl
  try simp only [List.getElem_toArray, List.getElem_cons_zero, List.getElem_cons_succ, Act.put, List.setIfInBounds_toArray, List.set_cons_zero, List.set_cons_succ]
  refine wpAnyH_take (i := 6) (oi := _) (v := ?_) rfl (by kernel_rfl) (by kernel_rfl) (by kernel_rfl) (fun _ _ _ h => h) (Or.inl ⟨by kernel_rfl, ?_⟩) (by assumption) ?_
  rotate_left
  · intro w hSw; (try dsimp only at hSw); go_simp; first | done | with_reducible rfl
  try simp only [List.getElem_toArray, List.getElem_cons_zero, List.getElem_cons_succ, Act.put, List.setIfInBounds_toArray, List.set_cons_zero, List.set_cons_succ]
  refine wpAnyH_take (i := 7) (oi := _) (v := ?_) rfl (by kernel_rfl) (by kernel_rfl) (by kernel_rfl) (fun _ _ _ h => h) (Or.inl ⟨by kernel_rfl, ?_⟩) (by assumption) ?_
  rotate_left
  · intro w hSw; (try dsimp only at hSw); go_simp; first | done | with_reducible rfl
  try simp only [List.getElem_toArray, List.getElem_cons_zero, List.getElem_cons_succ, Act.put, List.setIfInBounds_toArray, List.set_cons_zero, List.set_cons_succ]
  refine wpAnyH_take (i := 8) (oi := _) (v := ?_) rfl (by kernel_rfl) (by kernel_rfl) (by kernel_rfl) (fun _ _ _ h => h) (Or.inl ⟨by kernel_rfl, ?_⟩) (by assumption) ?_
  rotate_left
  · intro w hSw; (try dsimp only at hSw); go_simp; first | done | with_reducible rfl
  try simp only [List.getElem_toArray, List.getElem_cons_zero, List.getElem_cons_succ, Act.put, List.setIfInBounds_toArray, List.set_cons_zero, List.set_cons_succ]
  refine wpAnyH_take (i := 9) (oi := _) (v := ?_) rfl (by kernel_rfl) (by kernel_rfl) (by kernel_rfl) (fun _ _ _ h => h) (Or.inl ⟨by kernel_rfl, ?_⟩) (by assumption) ?_
  rotate_left
  · intro w hSw; (try dsimp only at hSw); go_simp; first | done | with_reducible rfl
  try simp only [List.getElem_toArray, List.getElem_cons_zero, List.getElem_cons_succ, Act.put, List.setIfInBounds_toArray, List.set_cons_zero, List.set_cons_succ]
  refine wpAnyH_take (i := 10) (oi := _) (v := ?_) rfl (by kernel_rfl) (by kernel_rfl) (by kernel_rfl) (fun _ _ _ h => h) (Or.inl ⟨by kernel_rfl, ?_⟩) (by assumption) ?_
  rotate_left
  · intro w hSw; (try dsimp only at hSw); go_simp; first | done | with_reducible rfl
  try simp only [List.getElem_toArray, List.getElem_cons_zero, List.getElem_cons_succ, Act.put, List.setIfInBounds_toArray, List.set_cons_zero, List.set_cons_succ]
  refine wpAnyH_take (i := 11) (oi := _) (v := ?_) rfl (by kernel_rfl) (by kernel_rfl) (by kernel_rfl) (fun _ _ _ h => h) (Or.inl ⟨by kernel_rfl, ?_⟩) (by assumption) ?_
  rotate_left
  · intro w hSw; (try dsimp only at hSw); go_simp; first | done | with_reducible rfl
  try simp only [List.getElem_toArray, List.getElem_cons_zero, List.getElem_cons_succ, Act.put, List.setIfInBounds_toArray, List.set_cons_zero, List.set_cons_succ]
  refine wpAnyH_done (by kernel_rfl) ?_ _
  clear hHeld
  by_cases h1 : pr - pl < 1
  · have d1 : decide (pr - pl < 1) = true := by simpa using h1
    obtain ⟨p1, q1, r1, s1⟩ := H1.cells4
    have f10 := H1.frozen 0
    have f11 := H1.frozen 1
    have f12 := H1.frozen 2
    have f13 := H1.frozen 3
    go_wp2_with fail
    have F1 := H1.set4 (.int .i8 0) (.int .i8 0) (.int .i8 0) (.int .i8 0)
    have B3 := below_set4 (g := w.heap.size + 2) (v0 := .int .i8 0) (v1 := .int .i8 0) (v2 := .int .i8 0) (v3 := .int .i8 0) B (by omega)
    obtain ⟨x1, y1, z1, u1⟩ := F1.cells4
    refine bodyPost_ret (v := .tuple #[.agg #[.int .i8 0, .int .i8 0, .int .i8 0, .int .i8 0], .bool false]) (by simp [results, Try.results78, go_sem, x1, y1, z1, u1]) rfl ⟨B3, .inr ⟨fun h => by omega, rfl⟩⟩
  · have d1 : decide (pr - pl < 1) = false := by simpa using h1
    by_cases h2 : pb - pt < 1
    · have d2 : decide (pb - pt < 1) = true := by simpa using h2
      obtain ⟨p1, q1, r1, s1⟩ := H1.cells4
      have f10 := H1.frozen 0
      have f11 := H1.frozen 1
      have f12 := H1.frozen 2
      have f13 := H1.frozen 3
      go_wp2_with fail
      have F1 := H1.set4 (.int .i8 0) (.int .i8 0) (.int .i8 0) (.int .i8 0)
      have B3 := below_set4 (g := w.heap.size + 2) (v0 := .int .i8 0) (v1 := .int .i8 0) (v2 := .int .i8 0) (v3 := .int .i8 0) B (by omega)
      obtain ⟨x1, y1, z1, u1⟩ := F1.cells4
      refine bodyPost_ret (v := .tuple #[.agg #[.int .i8 0, .int .i8 0, .int .i8 0, .int .i8 0], .bool false]) (by simp [results, Try.results78, go_sem, x1, y1, z1, u1]) rfl ⟨B3, .inr ⟨fun h => by omega, rfl⟩⟩
    · have d2 : decide (pb - pt < 1) = false := by simpa using h2
      obtain ⟨p1, q1, r1, s1⟩ := H1.cells4
      have f10 := H1.frozen 0
      have f11 := H1.frozen 1
      have f12 := H1.frozen 2
      have f13 := H1.frozen 3
      go_wp2_with fail
      have F1 := H1.set4 (.int .i8 (pl - hx)) (.int .i8 (pt - hy)) (.int .i8 (pr - pl)) (.int .i8 (pb - pt))
      have B3 := below_set4 (g := w.heap.size + 2) (v0 := .int .i8 (pl - hx)) (v1 := .int .i8 (pt - hy)) (v2 := .int .i8 (pr - pl)) (v3 := .int .i8 (pb - pt)) B (by omega)
      obtain ⟨x1, y1, z1, u1⟩ := F1.cells4
      refine bodyPost_ret (v := .tuple #[.agg #[.int .i8 (pl - hx), .int .i8 (pt - hy), .int .i8 (pr - pl), .int .i8 (pb - pt)], .bool true]) (by simp [results, Try.results78, go_sem, x1, y1, z1, u1]) rfl ⟨B3, .inl ⟨by omega, by omega, rfl⟩⟩
end Go.Proofs.Yteebkookoidheaa
