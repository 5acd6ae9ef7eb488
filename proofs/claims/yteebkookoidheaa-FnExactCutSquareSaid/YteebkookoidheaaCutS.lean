/-
  The model's CutSquare. Conditions stand at each.
-/
import Derived.Test.YteebkookoidheaaRows
import Derived.Test.YteebkookoidheaaCutM
import Derived.Test.YteebkookoidheaaCutI
import Derived.Deep.RegionHeld3
import Derived.Deep.DeepCutAuto
namespace Go.Proofs.Yteebkookoidheaa.cutSquare
open Go Go.ChangeShapes Go.WideShapes Go.ChangeAt Go.RowKit
set_option linter.unusedVariables false
set_option linter.unusedSimpArgs false
set_option maxRecDepth 100000
set_option maxHeartbeats 2000000

theorem own_blk {w w' : World} {base m : Nat} {v : Value} {L : List Value} (h : w.ownsRow base 31 4 v m L) (e : ∀ x, v.ownBlock = some x → w'.heap[x]? = w.heap[x]?) : w'.ownsRow base 31 4 v m L := by
  refine ⟨h.1, h.2.imp id ?_⟩
  rintro ⟨g, cap, cur, rfl, h2, h3, h4⟩
  exact ⟨g, cap, cur, rfl, h2, (e g rfl).trans h3, h4⟩
theorem spec_bad (X Y : Int) (g n : Nat) (c : Nat → Int) (a0 a1 a2 a3 : Int) (w : World) (hX : -128 ≤ X ∧ X ≤ 127) (hY : -128 ≤ Y ∧ Y ≤ 127) (hc : ∀ j, -128 ≤ c j ∧ c j ≤ 127) (b0 : -128 ≤ a0 ∧ a0 ≤ 127) (b1 : -128 ≤ a1 ∧ a1 ≤ 127) (b2 : -128 ≤ a2 ∧ a2 ≤ 127) (b3 : -128 ≤ a3 ∧ a3 ≤ 127) (hm : n ≤ 1048576) (hrow : w.rowIs g 31 (4 * n) (fun j => .int .i8 (c j))) (fine : Bool) (hv : ¬ Valid X Y n c) (hlies : ∀ (W : World) (bq : Nat), Sq W bq X Y (.slice (some ⟨g, 0, none⟩) n n) → Calls Try.prog 75 #[.pointer (some ⟨bq, 0, none⟩), .agg #[.int .i8 a0, .int .i8 a1, .int .i8 a2, .int .i8 a3]] W fun e w' => e = .returned (.bool fine) ∧ Below W.heap.size W w') :
    Calls Try.prog 30 #[.agg #[.int .i8 X, .int .i8 Y, .slice (some ⟨g, 0, none⟩) n n], .agg #[.int .i8 a0, .int .i8 a1, .int .i8 a2, .int .i8 a3]] w fun e w' => Below w.heap.size w w' ∧ ∃ v, e = .returned (.tuple #[.agg #[.int .i8 0, .int .i8 0, v], .int .i64 1]) ∧ HasSlice .i8 4 w' w.heap.size v 0 (fL []) := by
  have HV := Lib.hid hv
  clear hv
  have HC := Lib.hid hc
  have HLIES := Lib.hid hlies
  clear hc hlies
  go_enter Try.func30, Try.ntmps30
  go_wp2_with fail
  have HQ := ((Sq.new w X Y (.slice (some ⟨g, 0, none⟩) n n) 29).alloc (.cells #[.int .i8 a0, .int .i8 a1, .int .i8 a2, .int .i8 a3] 31)).alloc (.cells #[.int .i8 0, .int .i8 0, .slice none 0 0] 29)
  have H3 : Sl (((w.alloc (.cells #[.int .i8 X, .int .i8 Y, .slice (some ⟨g, 0, none⟩) n n] 29)).alloc (.cells #[.int .i8 a0, .int .i8 a1, .int .i8 a2, .int .i8 a3] 31)).alloc (.cells #[.int .i8 0, .int .i8 0, .slice none 0 0] 29)) (w.heap.size + 1) a0 a1 a2 a3 := by
    have := (Sl.new (w.alloc (.cells #[.int .i8 X, .int .i8 Y, .slice (some ⟨g, 0, none⟩) n n] 29)) a0 a1 a2 a3 31).alloc (.cells #[.int .i8 0, .int .i8 0, .slice none 0 0] 29)
    rwa [World.size_alloc] at this
  have H1 : Bx (((w.alloc (.cells #[.int .i8 X, .int .i8 Y, .slice (some ⟨g, 0, none⟩) n n] 29)).alloc (.cells #[.int .i8 a0, .int .i8 a1, .int .i8 a2, .int .i8 a3] 31)).alloc (.cells #[.int .i8 0, .int .i8 0, .slice none 0 0] 29)) (w.heap.size + 2) #[.int .i8 0, .int .i8 0, .slice none 0 0] 29 := by
    have := Bx.new ((w.alloc (.cells #[.int .i8 X, .int .i8 Y, .slice (some ⟨g, 0, none⟩) n n] 29)).alloc (.cells #[.int .i8 a0, .int .i8 a1, .int .i8 a2, .int .i8 a3] 31)) #[.int .i8 0, .int .i8 0, .slice none 0 0] 29
    rwa [World.size_alloc, World.size_alloc] at this
  have B := al (al (al (Below.refl w.heap.size w) (.cells #[.int .i8 X, .int .i8 Y, .slice (some ⟨g, 0, none⟩) n n] 29)) (.cells #[.int .i8 a0, .int .i8 a1, .int .i8 a2, .int .i8 a3] 31)) (.cells #[.int .i8 0, .int .i8 0, .slice none 0 0] 29)
  obtain ⟨W0, hW0⟩ : ∃ W0 : World, W0 = (((w.alloc (.cells #[.int .i8 X, .int .i8 Y, .slice (some ⟨g, 0, none⟩) n n] 29)).alloc (.cells #[.int .i8 a0, .int .i8 a1, .int .i8 a2, .int .i8 a3] 31)).alloc (.cells #[.int .i8 0, .int .i8 0, .slice none 0 0] 29)) := ⟨_, rfl⟩
  rw [← hW0] at HQ H3 H1 B ⊢
  clear hW0
  obtain ⟨lq, pq, qq, rq⟩ := id HQ
  obtain ⟨l3, p3, q3, r3, s3⟩ := id H3
  go_wp2_with fail
  refine (HLIES.out _ _ HQ).mono ?_
  rintro e w1 ⟨rfl, hb⟩
  clear lq pq qq rq l3 p3 q3 r3 s3
  replace HQ := HQ.below hb
  replace H3 := H3.below hb
  replace H1 := H1.below hb
  replace B := nxt B hb
  clear hb
  obtain ⟨lq, pq, qq, rq⟩ := id HQ
  obtain ⟨l3, p3, q3, r3, s3⟩ := id H3
  go_wp2_with fail
  refine (told_bad X Y w.heap.size g n c fine _ hX hY HC.out hm HQ (hrow.of_block (B.block _ hrow.lt)) HV.out).mono ?_
  rintro e w2 ⟨rfl, hb⟩
  clear lq pq qq rq l3 p3 q3 r3 s3
  replace HQ := HQ.below hb
  replace H3 := H3.below hb
  replace H1 := H1.below hb
  replace B := nxt B hb
  clear hb
  obtain ⟨lq, pq, qq, rq⟩ := id HQ
  obtain ⟨l3, p3, q3, r3, s3⟩ := id H3
  obtain ⟨p1, q1, r1⟩ := H1.cells3
  have f10 := H1.frozen 0
  have f11 := H1.frozen 1
  have f12 := H1.frozen 2
  go_wp2_with fail
  have F1 := H1.set3 (.int .i8 0) (.int .i8 0) (.slice none 0 0)
  have B3 := below_set3 (g := w.heap.size + 2) (v0 := .int .i8 0) (v1 := .int .i8 0) (v2 := .slice none 0 0) B (by omega)
  obtain ⟨x1, y1, z1⟩ := F1.cells3
  refine bodyPost_ret (v := .tuple #[.agg #[.int .i8 0, .int .i8 0, .slice none 0 0], .int .i64 1]) (by simp [results, Try.results30, go_sem, x1, y1, z1]) rfl ⟨B3, _, rfl, ⟨none, 0, 0, rfl, fun h => absurd h (by omega), fun j hj => absurd hj (by omega)⟩⟩
theorem spec_out (X Y : Int) (g n : Nat) (c : Nat → Int) (a0 a1 a2 a3 : Int) (w : World) (hX : -128 ≤ X ∧ X ≤ 127) (hY : -128 ≤ Y ∧ Y ≤ 127) (hc : ∀ j, -128 ≤ c j ∧ c j ≤ 127) (b0 : -128 ≤ a0 ∧ a0 ≤ 127) (b1 : -128 ≤ a1 ∧ a1 ≤ 127) (b2 : -128 ≤ a2 ∧ a2 ≤ 127) (b3 : -128 ≤ a3 ∧ a3 ≤ 127) (hm : n ≤ 1048576) (hrow : w.rowIs g 31 (4 * n) (fun j => .int .i8 (c j))) (hv : Valid X Y n c) (hlies : ∀ (W : World) (bq : Nat), Sq W bq X Y (.slice (some ⟨g, 0, none⟩) n n) → Calls Try.prog 75 #[.pointer (some ⟨bq, 0, none⟩), .agg #[.int .i8 a0, .int .i8 a1, .int .i8 a2, .int .i8 a3]] W fun e w' => e = .returned (.bool false) ∧ Below W.heap.size W w') :
    Calls Try.prog 30 #[.agg #[.int .i8 X, .int .i8 Y, .slice (some ⟨g, 0, none⟩) n n], .agg #[.int .i8 a0, .int .i8 a1, .int .i8 a2, .int .i8 a3]] w fun e w' => Below w.heap.size w w' ∧ ∃ v, e = .returned (.tuple #[.agg #[.int .i8 0, .int .i8 0, v], .int .i64 2]) ∧ HasSlice .i8 4 w' w.heap.size v 0 (fL []) := by
  have HV := Lib.hid hv
  clear hv
  have HC := Lib.hid hc
  have HLIES := Lib.hid hlies
  clear hc hlies
  go_enter Try.func30, Try.ntmps30
  go_wp2_with fail
  have HQ := ((Sq.new w X Y (.slice (some ⟨g, 0, none⟩) n n) 29).alloc (.cells #[.int .i8 a0, .int .i8 a1, .int .i8 a2, .int .i8 a3] 31)).alloc (.cells #[.int .i8 0, .int .i8 0, .slice none 0 0] 29)
  have H3 : Sl (((w.alloc (.cells #[.int .i8 X, .int .i8 Y, .slice (some ⟨g, 0, none⟩) n n] 29)).alloc (.cells #[.int .i8 a0, .int .i8 a1, .int .i8 a2, .int .i8 a3] 31)).alloc (.cells #[.int .i8 0, .int .i8 0, .slice none 0 0] 29)) (w.heap.size + 1) a0 a1 a2 a3 := by
    have := (Sl.new (w.alloc (.cells #[.int .i8 X, .int .i8 Y, .slice (some ⟨g, 0, none⟩) n n] 29)) a0 a1 a2 a3 31).alloc (.cells #[.int .i8 0, .int .i8 0, .slice none 0 0] 29)
    rwa [World.size_alloc] at this
  have H1 : Bx (((w.alloc (.cells #[.int .i8 X, .int .i8 Y, .slice (some ⟨g, 0, none⟩) n n] 29)).alloc (.cells #[.int .i8 a0, .int .i8 a1, .int .i8 a2, .int .i8 a3] 31)).alloc (.cells #[.int .i8 0, .int .i8 0, .slice none 0 0] 29)) (w.heap.size + 2) #[.int .i8 0, .int .i8 0, .slice none 0 0] 29 := by
    have := Bx.new ((w.alloc (.cells #[.int .i8 X, .int .i8 Y, .slice (some ⟨g, 0, none⟩) n n] 29)).alloc (.cells #[.int .i8 a0, .int .i8 a1, .int .i8 a2, .int .i8 a3] 31)) #[.int .i8 0, .int .i8 0, .slice none 0 0] 29
    rwa [World.size_alloc, World.size_alloc] at this
  have B := al (al (al (Below.refl w.heap.size w) (.cells #[.int .i8 X, .int .i8 Y, .slice (some ⟨g, 0, none⟩) n n] 29)) (.cells #[.int .i8 a0, .int .i8 a1, .int .i8 a2, .int .i8 a3] 31)) (.cells #[.int .i8 0, .int .i8 0, .slice none 0 0] 29)
  obtain ⟨W0, hW0⟩ : ∃ W0 : World, W0 = (((w.alloc (.cells #[.int .i8 X, .int .i8 Y, .slice (some ⟨g, 0, none⟩) n n] 29)).alloc (.cells #[.int .i8 a0, .int .i8 a1, .int .i8 a2, .int .i8 a3] 31)).alloc (.cells #[.int .i8 0, .int .i8 0, .slice none 0 0] 29)) := ⟨_, rfl⟩
  rw [← hW0] at HQ H3 H1 B ⊢
  clear hW0
  obtain ⟨lq, pq, qq, rq⟩ := id HQ
  obtain ⟨l3, p3, q3, r3, s3⟩ := id H3
  go_wp2_with fail
  refine (HLIES.out _ _ HQ).mono ?_
  rintro e w1 ⟨rfl, hb⟩
  clear lq pq qq rq l3 p3 q3 r3 s3
  replace HQ := HQ.below hb
  replace H3 := H3.below hb
  replace H1 := H1.below hb
  replace B := nxt B hb
  clear hb
  obtain ⟨lq, pq, qq, rq⟩ := id HQ
  obtain ⟨l3, p3, q3, r3, s3⟩ := id H3
  go_wp2_with fail
  refine (told_ok X Y w.heap.size g n c false _ hX hY HC.out hm HQ (hrow.of_block (B.block _ hrow.lt)) HV.out).mono ?_
  rintro e w2 ⟨rfl, hb⟩
  clear lq pq qq rq l3 p3 q3 r3 s3
  replace HQ := HQ.below hb
  replace H3 := H3.below hb
  replace H1 := H1.below hb
  replace B := nxt B hb
  clear hb
  obtain ⟨lq, pq, qq, rq⟩ := id HQ
  obtain ⟨l3, p3, q3, r3, s3⟩ := id H3
  obtain ⟨p1, q1, r1⟩ := H1.cells3
  have f10 := H1.frozen 0
  have f11 := H1.frozen 1
  have f12 := H1.frozen 2
  go_wp2_with fail
  have F1 := H1.set3 (.int .i8 0) (.int .i8 0) (.slice none 0 0)
  have B3 := below_set3 (g := w.heap.size + 2) (v0 := .int .i8 0) (v1 := .int .i8 0) (v2 := .slice none 0 0) B (by omega)
  obtain ⟨x1, y1, z1⟩ := F1.cells3
  refine bodyPost_ret (v := .tuple #[.agg #[.int .i8 0, .int .i8 0, .slice none 0 0], .int .i64 2]) (by simp [results, Try.results30, go_sem, x1, y1, z1]) rfl ⟨B3, _, rfl, ⟨none, 0, 0, rfl, fun h => absurd h (by omega), fun j hj => absurd hj (by omega)⟩⟩
theorem spec_in (X Y : Int) (g n : Nat) (c : Nat → Int) (a0 a1 a2 a3 : Int) (w : World) (hX : -128 ≤ X ∧ X ≤ 127) (hY : -128 ≤ Y ∧ Y ≤ 127) (hc : ∀ j, -128 ≤ c j ∧ c j ≤ 127) (b0 : -128 ≤ a0 ∧ a0 ≤ 127) (b1 : -128 ≤ a1 ∧ a1 ≤ 127) (b2 : -128 ≤ a2 ∧ a2 ≤ 127) (b3 : -128 ≤ a3 ∧ a3 ≤ 127) (hm : n ≤ 1048576) (hrow : w.rowIs g 31 (4 * n) (fun j => .int .i8 (c j))) (hv : Valid X Y n c) (hl : (0 ≤ a0 ∧ 0 ≤ a1 ∧ 1 ≤ a2 ∧ 1 ≤ a3 ∧ a0 + a2 ≤ X ∧ a1 + a3 ≤ Y)) (hlies : ∀ (W : World) (bq : Nat), Sq W bq X Y (.slice (some ⟨g, 0, none⟩) n n) → Calls Try.prog 75 #[.pointer (some ⟨bq, 0, none⟩), .agg #[.int .i8 a0, .int .i8 a1, .int .i8 a2, .int .i8 a3]] W fun e w' => e = .returned (.bool true) ∧ Below W.heap.size W w') :
    Calls Try.prog 30 #[.agg #[.int .i8 X, .int .i8 Y, .slice (some ⟨g, 0, none⟩) n n], .agg #[.int .i8 a0, .int .i8 a1, .int .i8 a2, .int .i8 a3]] w fun e w' => Below w.heap.size w w' ∧ ∃ v L, e = .returned (.tuple #[.agg #[.int .i8 a2, .int .i8 a3, v], .int .i64 0]) ∧ SortedOf (cutL (a0, a1, a2, a3) c n) L ∧ HasSlice .i8 4 w' w.heap.size v (cutL (a0, a1, a2, a3) c n).length (fL L) := by
  obtain ⟨i0, hi0, hz0, hz1, hz2⟩ := info_parts infoSlab
  have HI := Lib.hid hi0
  clear hi0
  have hn60 := hv.2.2.2.2.1
  have hlow : Low a0 a1 a2 a3 := by have := hv.2.1; have := hv.2.2.2.1; unfold Low; omega
  have hside : X ≤ 12 ∧ Y ≤ 12 := ⟨hv.2.1, hv.2.2.2.1⟩
  have HLOW := Lib.hid hlow
  have HOK := Lib.hid hv.2.2.2.2.2
  have HV := Lib.hid hv
  have HL := Lib.hid hl
  clear hlow hv hl
  have HC := Lib.hid hc
  have HLIES := Lib.hid hlies
  clear hc hlies
  go_enter Try.func30, Try.ntmps30
  go_wp2_with fail
  have HQ := ((Sq.new w X Y (.slice (some ⟨g, 0, none⟩) n n) 29).alloc (.cells #[.int .i8 a0, .int .i8 a1, .int .i8 a2, .int .i8 a3] 31)).alloc (.cells #[.int .i8 0, .int .i8 0, .slice none 0 0] 29)
  have H3 : Sl (((w.alloc (.cells #[.int .i8 X, .int .i8 Y, .slice (some ⟨g, 0, none⟩) n n] 29)).alloc (.cells #[.int .i8 a0, .int .i8 a1, .int .i8 a2, .int .i8 a3] 31)).alloc (.cells #[.int .i8 0, .int .i8 0, .slice none 0 0] 29)) (w.heap.size + 1) a0 a1 a2 a3 := by
    have := (Sl.new (w.alloc (.cells #[.int .i8 X, .int .i8 Y, .slice (some ⟨g, 0, none⟩) n n] 29)) a0 a1 a2 a3 31).alloc (.cells #[.int .i8 0, .int .i8 0, .slice none 0 0] 29)
    rwa [World.size_alloc] at this
  have H1 : Bx (((w.alloc (.cells #[.int .i8 X, .int .i8 Y, .slice (some ⟨g, 0, none⟩) n n] 29)).alloc (.cells #[.int .i8 a0, .int .i8 a1, .int .i8 a2, .int .i8 a3] 31)).alloc (.cells #[.int .i8 0, .int .i8 0, .slice none 0 0] 29)) (w.heap.size + 2) #[.int .i8 0, .int .i8 0, .slice none 0 0] 29 := by
    have := Bx.new ((w.alloc (.cells #[.int .i8 X, .int .i8 Y, .slice (some ⟨g, 0, none⟩) n n] 29)).alloc (.cells #[.int .i8 a0, .int .i8 a1, .int .i8 a2, .int .i8 a3] 31)) #[.int .i8 0, .int .i8 0, .slice none 0 0] 29
    rwa [World.size_alloc, World.size_alloc] at this
  have B := al (al (al (Below.refl w.heap.size w) (.cells #[.int .i8 X, .int .i8 Y, .slice (some ⟨g, 0, none⟩) n n] 29)) (.cells #[.int .i8 a0, .int .i8 a1, .int .i8 a2, .int .i8 a3] 31)) (.cells #[.int .i8 0, .int .i8 0, .slice none 0 0] 29)
  obtain ⟨W0, hW0⟩ : ∃ W0 : World, W0 = (((w.alloc (.cells #[.int .i8 X, .int .i8 Y, .slice (some ⟨g, 0, none⟩) n n] 29)).alloc (.cells #[.int .i8 a0, .int .i8 a1, .int .i8 a2, .int .i8 a3] 31)).alloc (.cells #[.int .i8 0, .int .i8 0, .slice none 0 0] 29)) := ⟨_, rfl⟩
  rw [← hW0] at HQ H3 H1 B ⊢
  clear hW0
  obtain ⟨lq, pq, qq, rq⟩ := id HQ
  obtain ⟨l3, p3, q3, r3, s3⟩ := id H3
  go_wp2_with fail
  refine (HLIES.out _ _ HQ).mono ?_
  rintro e w1 ⟨rfl, hb⟩
  clear lq pq qq rq l3 p3 q3 r3 s3
  replace HQ := HQ.below hb
  replace H3 := H3.below hb
  replace H1 := H1.below hb
  replace B := nxt B hb
  clear hb
  obtain ⟨lq, pq, qq, rq⟩ := id HQ
  obtain ⟨l3, p3, q3, r3, s3⟩ := id H3
  go_wp2_with fail
  refine (told_ok X Y w.heap.size g n c true _ hX hY HC.out hm HQ (hrow.of_block (B.block _ hrow.lt)) HV.out).mono ?_
  rintro e w2 ⟨rfl, hb⟩
  clear lq pq qq rq l3 p3 q3 r3 s3
  replace HQ := HQ.below hb
  replace H3 := H3.below hb
  replace H1 := H1.below hb
  replace B := nxt B hb
  clear hb
  obtain ⟨lq, pq, qq, rq⟩ := id HQ
  obtain ⟨l3, p3, q3, r3, s3⟩ := id H3
  have hz' : w.heap.size + 3 ≤ w2.heap.size := H1.lt
  go_wp2_with fail
  clear lq pq qq rq l3 p3 q3 r3 s3
  
  obtain ⟨W1, hW1⟩ : ∃ W1 : World, W1 = w2.alloc (.cells #[] 31) := ⟨_, rfl⟩
  have O0 : W1.ownsRow (w.heap.size + 3) 31 4 (.slice (some ⟨w2.heap.size, 0, none⟩) 0 0) 0 [] := by rw [hW1]; exact World.ownsRow_made w2 #[] 0 hz' (Nat.zero_le _) rfl
  replace HQ := HQ.alloc (.cells #[] 31)
  replace H3 := H3.alloc (.cells #[] 31)
  replace H1 := H1.alloc (.cells #[] 31)
  replace B := al B (.cells #[] 31)
  rw [← hW1] at HQ H3 H1 B ⊢
  replace hz' : w.heap.size + 3 ≤ W1.heap.size := H1.lt
  clear hW1
  go_loopw [7, 8, 9, 10] (fun t7 t8 t9 t10 wr => ∃ (k : Nat) (v : Value), k ≤ n ∧ t8 = .int .i64 k ∧ v = t7 ∧ Below w.heap.size w wr ∧ w.heap.size + 3 ≤ wr.heap.size ∧ Sq wr w.heap.size X Y (.slice (some ⟨g, 0, none⟩) n n) ∧ Sl wr (w.heap.size + 1) a0 a1 a2 a3 ∧ Bx wr (w.heap.size + 2) #[.int .i8 0, .int .i8 0, .slice none 0 0] 29 ∧ wr.ownsRow (w.heap.size + 3) 31 4 v (cutL (a0, a1, a2, a3) c k).length (encL (cutL (a0, a1, a2, a3) c k))) (fun t7 t8 t9 t10 wr => n - (intOf t8).toNat)
  case atStart => exact ⟨0, _, by omega, rfl, rfl, B, hz', HQ, H3, H1, O0⟩
  case round =>
    clear B HQ H3 H1 hz' O0
    obtain ⟨k, v, hk, rfl, rfl, B, hz, HQ, H3, H1, O⟩ := hrel
    by_cases hlt : k < n
    · have hlk := (HOK.out k hlt).1
      unfold lies at hlk
      have hls : Low (c (4 * k)) (c (4 * k + 1)) (c (4 * k + 2)) (c (4 * k + 3)) := by unfold Low; omega
      have HLS := Lib.hid hls
      obtain ⟨pl, pt, pr, pb, he⟩ : ∃ pl pt pr pb, Edges (c (4 * k)) (c (4 * k + 1)) (c (4 * k + 2)) (c (4 * k + 3)) a0 a1 a2 a3 pl pt pr pb := ⟨_, _, _, _, edges_of _ _ _ _ _ _ _ _⟩
      have k5 : IntKind.i8.wrap (pl - a0) = pl - a0 := IntWalk.i8_in _ (by have := HLOW.out; unfold Low at this hls; unfold Edges at he; omega)
      have k6 : IntKind.i8.wrap (pt - a1) = pt - a1 := IntWalk.i8_in _ (by have := HLOW.out; unfold Low at this hls; unfold Edges at he; omega)
      have HE := Lib.hid he
      have HO := Lib.hid O
      have hlen := cutL_le (a0, a1, a2, a3) c k
      have hkn : (k : Int) < (n : Int) := by omega
      have hk0 : (0 : Int) ≤ (k : Int) := by omega
      clear O hls he hlk
      obtain ⟨lq, pq, qq, rq⟩ := id HQ
      obtain ⟨l3, p3, q3, r3, s3⟩ := id H3
      go_wp2_with fail
      clear lq pq qq rq l3 p3 q3 r3 s3
      replace B := B.drew
      replace HQ : Sq wr.drew w.heap.size X Y (.slice (some ⟨g, 0, none⟩) n n) := HQ
      replace H3 : Sl wr.drew (w.heap.size + 1) a0 a1 a2 a3 := H3
      replace H1 : Bx wr.drew (w.heap.size + 2) #[.int .i8 0, .int .i8 0, .slice none 0 0] 29 := H1
      replace HO : Hid (wr.drew.ownsRow (w.heap.size + 3) 31 4 v (cutL (a0, a1, a2, a3) c k).length (encL (cutL (a0, a1, a2, a3) c k))) := HO
      replace hz : w.heap.size + 3 ≤ wr.drew.heap.size := hz
      obtain ⟨lq, pq, qq, rq⟩ := id HQ
      obtain ⟨l3, p3, q3, r3, s3⟩ := id H3
      obtain ⟨c0, c1, c2, c3⟩ := (Own8.of_row (f := c) (hrow.of_block (B.block _ hrow.lt))).at4 hlt |>.1
      simp only [Nat.zero_add] at c0 c1 c2 c3
      refine wp_region_held_drew (S := (fun w' => w'.cell? ⟨w.heap.size, 2, none⟩ = some (.slice (some ⟨g, 0, none⟩) n n) ∧ w'.cell? ⟨g, k * 4, none⟩ = some (.int .i8 (c (4 * k))) ∧ w'.cell? ⟨g, k * 4 + 1, none⟩ = some (.int .i8 (c (4 * k + 1))) ∧ w'.cell? ⟨g, k * 4 + 2, none⟩ = some (.int .i8 (c (4 * k + 2))) ∧ w'.cell? ⟨g, k * 4 + 3, none⟩ = some (.int .i8 (c (4 * k + 3))) ∧ w'.cell? ⟨w.heap.size + 1, 0, none⟩ = some (.int .i8 a0) ∧ w'.cell? ⟨w.heap.size + 1, 1, none⟩ = some (.int .i8 a1) ∧ w'.cell? ⟨w.heap.size + 1, 2, none⟩ = some (.int .i8 a2) ∧ w'.cell? ⟨w.heap.size + 1, 3, none⟩ = some (.int .i8 a3))) (by kernel_rfl) ⟨rq, c0, c1, c2, c3, p3, q3, r3, s3⟩ (fun hHeld => ?_)
      obtain ⟨w0, hw0⟩ : ∃ w0, wr.drew = w0 := ⟨_, rfl⟩
      rw [hw0] at hHeld B HQ H3 H1 HO hz lq pq qq rq l3 p3 q3 r3 s3 c0 c1 c2 c3 ⊢
      clear hw0
      refine wpAnyH_take (i := 0) (oi := _) (v := ?_) rfl (by kernel_rfl) (by kernel_rfl) (by kernel_rfl) (fun _ _ _ h => h) (Or.inl ⟨by kernel_rfl, ?_⟩) (by assumption) ?_
      rotate_left
      · intro w hSw; (try dsimp only at hSw); go_simp; first | done | with_reducible rfl
      try simp only [List.getElem_toArray, List.getElem_cons_zero, List.getElem_cons_succ, Act.put, List.setIfInBounds_toArray, List.set_cons_zero, List.set_cons_succ]
      refine wpAnyH_take (i := 1) (oi := _) (v := ?_) rfl (by kernel_rfl) (by kernel_rfl) (by kernel_rfl) (fun _ _ _ h => h) (Or.inl ⟨by kernel_rfl, ?_⟩) (by assumption) ?_
      rotate_left
      · intro w hSw; (try dsimp only at hSw); go_simp; first | done | with_reducible rfl
      try simp only [List.getElem_toArray, List.getElem_cons_zero, List.getElem_cons_succ, Act.put, List.setIfInBounds_toArray, List.set_cons_zero, List.set_cons_succ]
      refine wpAnyH_take (i := 2) (oi := _) (v := ?_) rfl (by kernel_rfl) (by kernel_rfl) (by kernel_rfl) (fun _ _ _ h => h) (Or.inl ⟨by kernel_rfl, ?_⟩) (by assumption) ?_
      rotate_left
      · intro w hSw; (try dsimp only at hSw); go_simp; first | done | with_reducible rfl
      try simp only [List.getElem_toArray, List.getElem_cons_zero, List.getElem_cons_succ, Act.put, List.setIfInBounds_toArray, List.set_cons_zero, List.set_cons_succ]
      refine wpAnyH_take (i := 3) (oi := _) (v := ?_) rfl (by kernel_rfl) (by kernel_rfl) (by kernel_rfl) (fun _ _ _ h => h) (Or.inl ⟨by kernel_rfl, ?_⟩) (by assumption) ?_
      rotate_left
      · intro w hSw; (try dsimp only at hSw); go_simp; first | done | with_reducible rfl
      try simp only [List.getElem_toArray, List.getElem_cons_zero, List.getElem_cons_succ, Act.put, List.setIfInBounds_toArray, List.set_cons_zero, List.set_cons_succ]
      refine wpAnyH_take (i := 4) (oi := _) (v := ?_) rfl (by kernel_rfl) (by kernel_rfl) (by kernel_rfl) (fun _ _ _ h => h) (Or.inl ⟨by kernel_rfl, ?_⟩) (by assumption) ?_
      rotate_left
      · intro w hSw; (try dsimp only at hSw); go_simp; first | done | with_reducible rfl
      try simp only [List.getElem_toArray, List.getElem_cons_zero, List.getElem_cons_succ, Act.put, List.setIfInBounds_toArray, List.set_cons_zero, List.set_cons_succ]
      refine wpAnyH_take (i := 5) (oi := _) (v := ?_) rfl (by kernel_rfl) (by kernel_rfl) (by kernel_rfl) (fun _ _ _ h => h) (Or.inl ⟨by kernel_rfl, ?_⟩) (by assumption) ?_
      rotate_left
      · intro w hSw; (try dsimp only at hSw); go_simp; first | done | with_reducible rfl
      try simp only [List.getElem_toArray, List.getElem_cons_zero, List.getElem_cons_succ, Act.put, List.setIfInBounds_toArray, List.set_cons_zero, List.set_cons_succ]
      refine wpAnyH_ready (rs := [6, 10]) (by kernel_rfl) (by simp) ?_
      refine AllReadyH.cons (o := _) rfl (fun K hK => ?_) (AllReadyH.cons (o := _) rfl (fun K hK => ?_) AllReadyH.nil)
      · skip
        go_simp
        refine (partS_any _ _ _ _ _ _ _ _ pl pt pr pb _ HLS.out HLOW.out HE.out).mono ?_
        rintro e wc1 ⟨hb, hcase⟩
        replace HQ := HQ.below hb
        replace H3 := H3.below hb
        replace H1 := H1.below hb
        replace HO := Lib.hid (own_below HO.out hb)
        replace B := nxt B hb
        replace hz : w.heap.size + 3 ≤ wc1.heap.size := H1.lt
        clear hb lq pq qq rq l3 p3 q3 r3 s3 c0 c1 c2 c3
        obtain ⟨lq, pq, qq, rq⟩ := id HQ
        obtain ⟨l3, p3, q3, r3, s3⟩ := id H3
        obtain ⟨c0, c1, c2, c3⟩ := (Own8.of_row (f := c) (hrow.of_block (B.block _ hrow.lt))).at4 hlt |>.1
        simp only [Nat.zero_add] at c0 c1 c2 c3
        rcases hcase with ⟨h1, h2, rfl⟩ | ⟨h12, rfl⟩
        · have H12 := Lib.hid (And.intro h1 h2)
          clear h1 h2
          refine hK.out _ _ ⟨rq, c0, c1, c2, c3, p3, q3, r3, s3⟩ (fun hHeld => ?_)
          clear hK K
          try simp only [List.getElem_toArray, List.getElem_cons_zero, List.getElem_cons_succ, Act.put, List.setIfInBounds_toArray, List.set_cons_zero, List.set_cons_succ]
          refine wpAnyH_take (i := 7) (oi := _) (v := ?_) rfl (by kernel_rfl) (by kernel_rfl) (by kernel_rfl) (fun _ _ _ h => h) (Or.inl ⟨by kernel_rfl, ?_⟩) (by assumption) ?_
          rotate_left
          · intro w hSw; (try dsimp only at hSw); go_simp; first | done | with_reducible rfl
          try simp only [List.getElem_toArray, List.getElem_cons_zero, List.getElem_cons_succ, Act.put, List.setIfInBounds_toArray, List.set_cons_zero, List.set_cons_succ]
          refine wpAnyH_take (i := 8) (oi := _) (v := ?_) rfl (by kernel_rfl) (by kernel_rfl) (by kernel_rfl) (fun _ _ _ h => h) (Or.inl ⟨by kernel_rfl, ?_⟩) (by assumption) ?_
          rotate_left
          · intro w hSw; (try dsimp only at hSw); go_simp; first | done | with_reducible rfl
          try simp only [List.getElem_toArray, List.getElem_cons_zero, List.getElem_cons_succ, Act.put, List.setIfInBounds_toArray, List.set_cons_zero, List.set_cons_succ]
          refine wpAnyH_take (i := 9) (oi := _) (v := ?_) rfl (by kernel_rfl) (by kernel_rfl) (by kernel_rfl) (fun _ _ _ h => h) (Or.inl ⟨by kernel_rfl, ?_⟩) (by assumption) ?_
          rotate_left
          · intro w hSw; (try dsimp only at hSw); go_simp; first | done | with_reducible rfl
          try simp only [List.getElem_toArray, List.getElem_cons_zero, List.getElem_cons_succ, Act.put, List.setIfInBounds_toArray, List.set_cons_zero, List.set_cons_succ]
          refine wpAnyH_ready (rs := [10]) (by kernel_rfl) (by simp) ?_
          refine AllReadyH.cons (o := _) rfl (fun K hK => ?_) AllReadyH.nil
          go_simp
          have HB := Bx.new wc1 #[.int .i8 0, .int .i8 0, .int .i8 0, .int .i8 0] 31
          have nb : w.heap.size + 3 ≤ wc1.heap.size := hz
          have nv : ∀ x, v.ownBlock = some x → x ≠ wc1.heap.size := fun x e => by have := (World.ownsRow.lt HO.out x e).2; omega
          have NV := Lib.hid nv
          clear nv
          replace HQ := HQ.alloc (.cells #[.int .i8 0, .int .i8 0, .int .i8 0, .int .i8 0] 31)
          replace H3 := H3.alloc (.cells #[.int .i8 0, .int .i8 0, .int .i8 0, .int .i8 0] 31)
          replace H1 := H1.alloc (.cells #[.int .i8 0, .int .i8 0, .int .i8 0, .int .i8 0] 31)
          replace HO := Lib.hid (World.ownsRow.alloc HO.out (.cells #[.int .i8 0, .int .i8 0, .int .i8 0, .int .i8 0] 31))
          replace B := al B (.cells #[.int .i8 0, .int .i8 0, .int .i8 0, .int .i8 0] 31)
          replace hz : w.heap.size + 3 ≤ (wc1.alloc (.cells #[.int .i8 0, .int .i8 0, .int .i8 0, .int .i8 0] 31)).heap.size := H1.lt
          obtain ⟨wa2, hwa⟩ : ∃ wa2, wc1.alloc (.cells #[.int .i8 0, .int .i8 0, .int .i8 0, .int .i8 0] 31) = wa2 := ⟨_, rfl⟩
          rw [hwa] at HB HQ H3 H1 HO B hz ⊢
          clear hwa lq pq qq rq l3 p3 q3 r3 s3 c0 c1 c2 c3
          obtain ⟨lq, pq, qq, rq⟩ := id HQ
          obtain ⟨l3, p3, q3, r3, s3⟩ := id H3
          obtain ⟨c0, c1, c2, c3⟩ := (Own8.of_row (f := c) (hrow.of_block (B.block _ hrow.lt))).at4 hlt |>.1
          simp only [Nat.zero_add] at c0 c1 c2 c3
          refine hK.out _ _ ⟨rq, c0, c1, c2, c3, p3, q3, r3, s3⟩ (fun hHeld => ?_)
          clear hK K
          try simp only [List.getElem_toArray, List.getElem_cons_zero, List.getElem_cons_succ, Act.put, List.setIfInBounds_toArray, List.set_cons_zero, List.set_cons_succ]
          obtain ⟨pB, qB, rB, sB⟩ := HB.cells4
          have fB0 := HB.frozen 0
          have fB1 := HB.frozen 1
          have fB2 := HB.frozen 2
          have fB3 := HB.frozen 3
          have GB := HB.set4 (.int .i8 pl) (.int .i8 pt) (.int .i8 (pr - pl)) (.int .i8 (pb - pt))
          have B' : Below w.heap.size w ((((wa2.setCell ⟨wc1.heap.size, 0, none⟩ (.int .i8 pl)).setCell ⟨wc1.heap.size, 1, none⟩ (.int .i8 pt)).setCell ⟨wc1.heap.size, 2, none⟩ (.int .i8 (pr - pl))).setCell ⟨wc1.heap.size, 3, none⟩ (.int .i8 (pb - pt))) := below_set4 (g := wc1.heap.size) (v0 := .int .i8 pl) (v1 := .int .i8 pt) (v2 := .int .i8 (pr - pl)) (v3 := .int .i8 (pb - pt)) B (by omega)
          have GQ : Sq ((((wa2.setCell ⟨wc1.heap.size, 0, none⟩ (.int .i8 pl)).setCell ⟨wc1.heap.size, 1, none⟩ (.int .i8 pt)).setCell ⟨wc1.heap.size, 2, none⟩ (.int .i8 (pr - pl))).setCell ⟨wc1.heap.size, 3, none⟩ (.int .i8 (pb - pt))) w.heap.size X Y (.slice (some ⟨g, 0, none⟩) n n) := HQ.of_block (by simp) (blk4 (by omega))
          have G3 : Sl ((((wa2.setCell ⟨wc1.heap.size, 0, none⟩ (.int .i8 pl)).setCell ⟨wc1.heap.size, 1, none⟩ (.int .i8 pt)).setCell ⟨wc1.heap.size, 2, none⟩ (.int .i8 (pr - pl))).setCell ⟨wc1.heap.size, 3, none⟩ (.int .i8 (pb - pt))) (w.heap.size + 1) a0 a1 a2 a3 := H3.of_block (by simp) (blk4 (by omega))
          have G1 : Bx ((((wa2.setCell ⟨wc1.heap.size, 0, none⟩ (.int .i8 pl)).setCell ⟨wc1.heap.size, 1, none⟩ (.int .i8 pt)).setCell ⟨wc1.heap.size, 2, none⟩ (.int .i8 (pr - pl))).setCell ⟨wc1.heap.size, 3, none⟩ (.int .i8 (pb - pt))) (w.heap.size + 2) #[.int .i8 0, .int .i8 0, .slice none 0 0] 29 := H1.of_block (blk4 (by omega))
          have GO : Hid (((((wa2.setCell ⟨wc1.heap.size, 0, none⟩ (.int .i8 pl)).setCell ⟨wc1.heap.size, 1, none⟩ (.int .i8 pt)).setCell ⟨wc1.heap.size, 2, none⟩ (.int .i8 (pr - pl))).setCell ⟨wc1.heap.size, 3, none⟩ (.int .i8 (pb - pt))).ownsRow (w.heap.size + 3) 31 4 v (cutL (a0, a1, a2, a3) c k).length (encL (cutL (a0, a1, a2, a3) c k))) := Lib.hid (own_blk HO.out (fun x e => blk4 (NV.out x e)))
          have gz : w.heap.size + 3 ≤ ((((wa2.setCell ⟨wc1.heap.size, 0, none⟩ (.int .i8 pl)).setCell ⟨wc1.heap.size, 1, none⟩ (.int .i8 pt)).setCell ⟨wc1.heap.size, 2, none⟩ (.int .i8 (pr - pl))).setCell ⟨wc1.heap.size, 3, none⟩ (.int .i8 (pb - pt))).heap.size := by simp; omega
          obtain ⟨d0, d1, d2, d3⟩ := (Own8.of_row (f := c) (hrow.of_block (B'.block _ hrow.lt))).at4 hlt |>.1
          simp only [Nat.zero_add] at d0 d1 d2 d3
          refine wpAnyH_ready (rs := [11]) (by kernel_rfl) (by simp) ?_
          refine AllReadyH.cons (o := _) rfl (fun K hK => ?_) AllReadyH.nil
          go_simp
          refine hK.out _ _ ⟨GQ.2.2.2, d0, d1, d2, d3, G3.2.1, G3.2.2.1, G3.2.2.2.1, G3.2.2.2.2⟩ (fun hHeld => ?_)
          clear hK K
          try simp only [List.getElem_toArray, List.getElem_cons_zero, List.getElem_cons_succ, Act.put, List.setIfInBounds_toArray, List.set_cons_zero, List.set_cons_succ]
          refine wpAnyH_take (i := 12) (oi := _) (v := ?_) rfl (by kernel_rfl) (by kernel_rfl) (by kernel_rfl) (fun _ _ _ h => h) (Or.inl ⟨by kernel_rfl, ?_⟩) (by assumption) ?_
          rotate_left
          · intro w hSw; (try dsimp only at hSw); go_simp; first | done | with_reducible rfl
          try simp only [List.getElem_toArray, List.getElem_cons_zero, List.getElem_cons_succ, Act.put, List.setIfInBounds_toArray, List.set_cons_zero, List.set_cons_succ]
          refine wpAnyH_done (by kernel_rfl) ?_ _
          clear HB HQ H3 H1 HO B hz lq pq qq rq l3 p3 q3 r3 s3 c0 c1 c2 c3 pB qB rB sB fB0 fB1 fB2 fB3 d0 d1 d2 d3
          obtain ⟨wt3, hT⟩ : ∃ wt3, ((((wa2.setCell ⟨wc1.heap.size, 0, none⟩ (.int .i8 pl)).setCell ⟨wc1.heap.size, 1, none⟩ (.int .i8 pt)).setCell ⟨wc1.heap.size, 2, none⟩ (.int .i8 (pr - pl))).setCell ⟨wc1.heap.size, 3, none⟩ (.int .i8 (pb - pt))) = wt3 := ⟨_, rfl⟩
          rw [hT] at GB B' GQ G3 G1 GO gz hHeld ⊢
          clear hT hHeld
          obtain ⟨pB, qB, rB, sB⟩ := GB.cells4
          have fB0 := GB.frozen 0
          obtain ⟨l3, p3, q3, r3, s3⟩ := id G3
          go_upto_region 11 with fail
          have GB : Bx (wt3.setCell ⟨wc1.heap.size, 0, none⟩ (.int .i8 (pl - a0))) wc1.heap.size #[.int .i8 (pl - a0), .int .i8 pt, .int .i8 (pr - pl), .int .i8 (pb - pt)] 31 := by simpa using GB.set 0 (.int .i8 (pl - a0))
          replace B' : Below w.heap.size w (wt3.setCell ⟨wc1.heap.size, 0, none⟩ (.int .i8 (pl - a0))) := B'.setCell (p := ⟨wc1.heap.size, 0, none⟩) (by show w.heap.size ≤ wc1.heap.size; omega) _
          replace GQ : Sq (wt3.setCell ⟨wc1.heap.size, 0, none⟩ (.int .i8 (pl - a0))) w.heap.size X Y (.slice (some ⟨g, 0, none⟩) n n) := GQ.of_block (by simp) (Below.heap_setCell _ _ _ _ (by simp; omega))
          replace G3 : Sl (wt3.setCell ⟨wc1.heap.size, 0, none⟩ (.int .i8 (pl - a0))) (w.heap.size + 1) a0 a1 a2 a3 := G3.of_block (by simp) (Below.heap_setCell _ _ _ _ (by simp; omega))
          replace G1 : Bx (wt3.setCell ⟨wc1.heap.size, 0, none⟩ (.int .i8 (pl - a0))) (w.heap.size + 2) #[.int .i8 0, .int .i8 0, .slice none 0 0] 29 := G1.of_block (Below.heap_setCell _ _ _ _ (by simp; omega))
          replace GO : Hid ((wt3.setCell ⟨wc1.heap.size, 0, none⟩ (.int .i8 (pl - a0))).ownsRow (w.heap.size + 3) 31 4 v (cutL (a0, a1, a2, a3) c k).length (encL (cutL (a0, a1, a2, a3) c k))) := Lib.hid (own_blk GO.out (fun x e => Below.heap_setCell _ _ _ _ (NV.out x e)))
          replace gz : w.heap.size + 3 ≤ (wt3.setCell ⟨wc1.heap.size, 0, none⟩ (.int .i8 (pl - a0))).heap.size := by simp; omega
          obtain ⟨wt3x, hT⟩ : ∃ wt3x, wt3.setCell ⟨wc1.heap.size, 0, none⟩ (.int .i8 (pl - a0)) = wt3x := ⟨_, rfl⟩
          rw [hT] at GB B' GQ G3 G1 GO gz ⊢
          clear hT pB qB rB sB fB0 l3 p3 q3 r3 s3
          obtain ⟨pB, qB, rB, sB⟩ := GB.cells4
          have fB1 := GB.frozen 1
          obtain ⟨l3, p3, q3, r3, s3⟩ := id G3
          go_upto_region 12 with fail
          have GB : Bx (wt3x.setCell ⟨wc1.heap.size, 1, none⟩ (.int .i8 (pt - a1))) wc1.heap.size #[.int .i8 (pl - a0), .int .i8 (pt - a1), .int .i8 (pr - pl), .int .i8 (pb - pt)] 31 := by simpa using GB.set 1 (.int .i8 (pt - a1))
          replace B' : Below w.heap.size w (wt3x.setCell ⟨wc1.heap.size, 1, none⟩ (.int .i8 (pt - a1))) := B'.setCell (p := ⟨wc1.heap.size, 1, none⟩) (by show w.heap.size ≤ wc1.heap.size; omega) _
          replace GQ : Sq (wt3x.setCell ⟨wc1.heap.size, 1, none⟩ (.int .i8 (pt - a1))) w.heap.size X Y (.slice (some ⟨g, 0, none⟩) n n) := GQ.of_block (by simp) (Below.heap_setCell _ _ _ _ (by simp; omega))
          replace G3 : Sl (wt3x.setCell ⟨wc1.heap.size, 1, none⟩ (.int .i8 (pt - a1))) (w.heap.size + 1) a0 a1 a2 a3 := G3.of_block (by simp) (Below.heap_setCell _ _ _ _ (by simp; omega))
          replace G1 : Bx (wt3x.setCell ⟨wc1.heap.size, 1, none⟩ (.int .i8 (pt - a1))) (w.heap.size + 2) #[.int .i8 0, .int .i8 0, .slice none 0 0] 29 := G1.of_block (Below.heap_setCell _ _ _ _ (by simp; omega))
          replace GO : Hid ((wt3x.setCell ⟨wc1.heap.size, 1, none⟩ (.int .i8 (pt - a1))).ownsRow (w.heap.size + 3) 31 4 v (cutL (a0, a1, a2, a3) c k).length (encL (cutL (a0, a1, a2, a3) c k))) := Lib.hid (own_blk GO.out (fun x e => Below.heap_setCell _ _ _ _ (NV.out x e)))
          replace gz : w.heap.size + 3 ≤ (wt3x.setCell ⟨wc1.heap.size, 1, none⟩ (.int .i8 (pt - a1))).heap.size := by simp; omega
          obtain ⟨wt3y, hT⟩ : ∃ wt3y, wt3x.setCell ⟨wc1.heap.size, 1, none⟩ (.int .i8 (pt - a1)) = wt3y := ⟨_, rfl⟩
          rw [hT] at GB B' GQ G3 G1 GO gz ⊢
          clear hT pB qB rB sB fB1 l3 p3 q3 r3 s3
          obtain ⟨pB, qB, rB, sB⟩ := GB.cells4
          have hlo : ∀ x, v.ownBlock = some x → w.heap.size + 3 ≤ x ∧ x < wt3y.heap.size := fun x e => World.ownsRow.lt GO.out x e
          have HLO := Lib.hid hlo
          have hle : (cutL (a0, a1, a2, a3) c k).length ≤ 60 := by omega
          have HLE := Lib.hid hle
          have N8 : Hid (∀ j u, (#[.int .i8 (pl - a0), .int .i8 (pt - a1), .int .i8 (pr - pl), .int .i8 (pb - pt)] : Array Value).toList[j]? = some u → (wt3y.alloc (.cells #[.int .i8 (pl - a0), .int .i8 (pt - a1), .int .i8 (pr - pl), .int .i8 (pb - pt)] 31)).cell? ((⟨wt3y.heap.size, 0, none⟩ : Addr).add j) = some u) := new_cells wt3y #[.int .i8 (pl - a0), .int .i8 (pt - a1), .int .i8 (pr - pl), .int .i8 (pb - pt)] 31
          clear hlo hle hlen
          go_wp2_with (at_builtin; refine wpList_append_own _ rfl _ _ 27 rfl (w.heap.size + 3) 31 i0 (.agg #[.int .i8 0, .int .i8 0, .int .i8 0, .int .i8 0]) 4 4 Try.underlying27 HI.out hz0 hz1 hz2 rfl (by decide) v (cutL (a0, a1, a2, a3) c k).length (encL (cutL (a0, a1, a2, a3) c k)) rfl (World.ownsRow.alloc GO.out _) ⟨wt3y.heap.size, 0, none⟩ 1 1 (#[.int .i8 (pl - a0), .int .i8 (pt - a1), .int .i8 (pr - pl), .int .i8 (pb - pt)] : Array Value).toList rfl rfl N8.out (by intro u hu; simp at hu; rcases hu with rfl | rfl | rfl | rfl <;> rfl) (by have := HLE.out; unfold maxLen; omega) (by have := HLE.out; omega) (by simp; omega) ?_)
          intro v9 w9 own9 hg9 hn9
          have B9 : Below w.heap.size w w9 := (al B' _).grown hg9 (al B' _).size (fun b e => by have := (HLO.out b e).1; omega)
          have HQ9 := (GQ.alloc (.cells #[.int .i8 (pl - a0), .int .i8 (pt - a1), .int .i8 (pr - pl), .int .i8 (pb - pt)] 31)).of_block hg9.size (hg9.block _ (by simp; have := GQ.1; omega) (fun e => by have := (HLO.out _ e.symm).1; omega))
          have H39 := (G3.alloc (.cells #[.int .i8 (pl - a0), .int .i8 (pt - a1), .int .i8 (pr - pl), .int .i8 (pb - pt)] 31)).of_block hg9.size (hg9.block _ (by simp; have := G3.1; omega) (fun e => by have := (HLO.out _ e.symm).1; omega))
          have H19 := (G1.alloc (.cells #[.int .i8 (pl - a0), .int .i8 (pt - a1), .int .i8 (pr - pl), .int .i8 (pb - pt)] 31)).of_block (hg9.block _ (by simp; have := G1.lt; omega) (fun e => by have := (HLO.out _ e.symm).1; omega))
          have hz9 : w.heap.size + 3 ≤ w9.heap.size := by have := hg9.size; simp at this; omega
          have hlen9 : (cutL (a0, a1, a2, a3) c (k + 1)).length = (cutL (a0, a1, a2, a3) c k).length + 1 := by rw [cutL_some HE.out H12.out.1 H12.out.2, List.length_append]; rfl
          have own9' : w9.ownsRow (w.heap.size + 3) 31 4 v9 (cutL (a0, a1, a2, a3) c (k + 1)).length (encL (cutL (a0, a1, a2, a3) c (k + 1))) := by rw [hlen9, cut_enc HE.out H12.out.1 H12.out.2]; exact own9
          have HO9 := Lib.hid own9'
          clear own9 own9' hg9 hn9 N8 GO HLO hlen9 pB qB rB sB B' GQ G3 G1 gz GB H12
          go_wp2_with fail
          exact ⟨⟨k + 1, v9, by omega, by first | go_num | simp, rfl, B9, hz9, HQ9, H39, H19, HO9.out⟩, by simp [intOf]; omega⟩
        · have H12 := Lib.hid h12
          clear h12
          refine hK.out _ _ ⟨rq, c0, c1, c2, c3, p3, q3, r3, s3⟩ (fun hHeld => ?_)
          clear hK K
          try simp only [List.getElem_toArray, List.getElem_cons_zero, List.getElem_cons_succ, Act.put, List.setIfInBounds_toArray, List.set_cons_zero, List.set_cons_succ]
          refine wpAnyH_take (i := 7) (oi := _) (v := ?_) rfl (by kernel_rfl) (by kernel_rfl) (by kernel_rfl) (fun _ _ _ h => h) (Or.inl ⟨by kernel_rfl, ?_⟩) (by assumption) ?_
          rotate_left
          · intro w hSw; (try dsimp only at hSw); go_simp; first | done | with_reducible rfl
          try simp only [List.getElem_toArray, List.getElem_cons_zero, List.getElem_cons_succ, Act.put, List.setIfInBounds_toArray, List.set_cons_zero, List.set_cons_succ]
          refine wpAnyH_take (i := 8) (oi := _) (v := ?_) rfl (by kernel_rfl) (by kernel_rfl) (by kernel_rfl) (fun _ _ _ h => h) (Or.inl ⟨by kernel_rfl, ?_⟩) (by assumption) ?_
          rotate_left
          · intro w hSw; (try dsimp only at hSw); go_simp; first | done | with_reducible rfl
          try simp only [List.getElem_toArray, List.getElem_cons_zero, List.getElem_cons_succ, Act.put, List.setIfInBounds_toArray, List.set_cons_zero, List.set_cons_succ]
          refine wpAnyH_take (i := 9) (oi := _) (v := ?_) rfl (by kernel_rfl) (by kernel_rfl) (by kernel_rfl) (fun _ _ _ h => h) (Or.inl ⟨by kernel_rfl, ?_⟩) (by assumption) ?_
          rotate_left
          · intro w hSw; (try dsimp only at hSw); go_simp; first | done | with_reducible rfl
          try simp only [List.getElem_toArray, List.getElem_cons_zero, List.getElem_cons_succ, Act.put, List.setIfInBounds_toArray, List.set_cons_zero, List.set_cons_succ]
          refine wpAnyH_ready (rs := [10]) (by kernel_rfl) (by simp) ?_
          refine AllReadyH.cons (o := _) rfl (fun K hK => ?_) AllReadyH.nil
          go_simp
          have HB := Bx.new wc1 #[.int .i8 0, .int .i8 0, .int .i8 0, .int .i8 0] 31
          have nb : w.heap.size + 3 ≤ wc1.heap.size := hz
          have nv : ∀ x, v.ownBlock = some x → x ≠ wc1.heap.size := fun x e => by have := (World.ownsRow.lt HO.out x e).2; omega
          have NV := Lib.hid nv
          clear nv
          replace HQ := HQ.alloc (.cells #[.int .i8 0, .int .i8 0, .int .i8 0, .int .i8 0] 31)
          replace H3 := H3.alloc (.cells #[.int .i8 0, .int .i8 0, .int .i8 0, .int .i8 0] 31)
          replace H1 := H1.alloc (.cells #[.int .i8 0, .int .i8 0, .int .i8 0, .int .i8 0] 31)
          replace HO := Lib.hid (World.ownsRow.alloc HO.out (.cells #[.int .i8 0, .int .i8 0, .int .i8 0, .int .i8 0] 31))
          replace B := al B (.cells #[.int .i8 0, .int .i8 0, .int .i8 0, .int .i8 0] 31)
          replace hz : w.heap.size + 3 ≤ (wc1.alloc (.cells #[.int .i8 0, .int .i8 0, .int .i8 0, .int .i8 0] 31)).heap.size := H1.lt
          obtain ⟨wa4, hwa⟩ : ∃ wa4, wc1.alloc (.cells #[.int .i8 0, .int .i8 0, .int .i8 0, .int .i8 0] 31) = wa4 := ⟨_, rfl⟩
          rw [hwa] at HB HQ H3 H1 HO B hz ⊢
          clear hwa lq pq qq rq l3 p3 q3 r3 s3 c0 c1 c2 c3
          obtain ⟨lq, pq, qq, rq⟩ := id HQ
          obtain ⟨l3, p3, q3, r3, s3⟩ := id H3
          obtain ⟨c0, c1, c2, c3⟩ := (Own8.of_row (f := c) (hrow.of_block (B.block _ hrow.lt))).at4 hlt |>.1
          simp only [Nat.zero_add] at c0 c1 c2 c3
          refine hK.out _ _ ⟨rq, c0, c1, c2, c3, p3, q3, r3, s3⟩ (fun hHeld => ?_)
          clear hK K
          try simp only [List.getElem_toArray, List.getElem_cons_zero, List.getElem_cons_succ, Act.put, List.setIfInBounds_toArray, List.set_cons_zero, List.set_cons_succ]
          obtain ⟨pB, qB, rB, sB⟩ := HB.cells4
          have fB0 := HB.frozen 0
          have fB1 := HB.frozen 1
          have fB2 := HB.frozen 2
          have fB3 := HB.frozen 3
          have GB := HB.set4 (.int .i8 0) (.int .i8 0) (.int .i8 0) (.int .i8 0)
          have B' : Below w.heap.size w ((((wa4.setCell ⟨wc1.heap.size, 0, none⟩ (.int .i8 0)).setCell ⟨wc1.heap.size, 1, none⟩ (.int .i8 0)).setCell ⟨wc1.heap.size, 2, none⟩ (.int .i8 0)).setCell ⟨wc1.heap.size, 3, none⟩ (.int .i8 0)) := below_set4 (g := wc1.heap.size) (v0 := .int .i8 0) (v1 := .int .i8 0) (v2 := .int .i8 0) (v3 := .int .i8 0) B (by omega)
          have GQ : Sq ((((wa4.setCell ⟨wc1.heap.size, 0, none⟩ (.int .i8 0)).setCell ⟨wc1.heap.size, 1, none⟩ (.int .i8 0)).setCell ⟨wc1.heap.size, 2, none⟩ (.int .i8 0)).setCell ⟨wc1.heap.size, 3, none⟩ (.int .i8 0)) w.heap.size X Y (.slice (some ⟨g, 0, none⟩) n n) := HQ.of_block (by simp) (blk4 (by omega))
          have G3 : Sl ((((wa4.setCell ⟨wc1.heap.size, 0, none⟩ (.int .i8 0)).setCell ⟨wc1.heap.size, 1, none⟩ (.int .i8 0)).setCell ⟨wc1.heap.size, 2, none⟩ (.int .i8 0)).setCell ⟨wc1.heap.size, 3, none⟩ (.int .i8 0)) (w.heap.size + 1) a0 a1 a2 a3 := H3.of_block (by simp) (blk4 (by omega))
          have G1 : Bx ((((wa4.setCell ⟨wc1.heap.size, 0, none⟩ (.int .i8 0)).setCell ⟨wc1.heap.size, 1, none⟩ (.int .i8 0)).setCell ⟨wc1.heap.size, 2, none⟩ (.int .i8 0)).setCell ⟨wc1.heap.size, 3, none⟩ (.int .i8 0)) (w.heap.size + 2) #[.int .i8 0, .int .i8 0, .slice none 0 0] 29 := H1.of_block (blk4 (by omega))
          have GO : Hid (((((wa4.setCell ⟨wc1.heap.size, 0, none⟩ (.int .i8 0)).setCell ⟨wc1.heap.size, 1, none⟩ (.int .i8 0)).setCell ⟨wc1.heap.size, 2, none⟩ (.int .i8 0)).setCell ⟨wc1.heap.size, 3, none⟩ (.int .i8 0)).ownsRow (w.heap.size + 3) 31 4 v (cutL (a0, a1, a2, a3) c k).length (encL (cutL (a0, a1, a2, a3) c k))) := Lib.hid (own_blk HO.out (fun x e => blk4 (NV.out x e)))
          have gz : w.heap.size + 3 ≤ ((((wa4.setCell ⟨wc1.heap.size, 0, none⟩ (.int .i8 0)).setCell ⟨wc1.heap.size, 1, none⟩ (.int .i8 0)).setCell ⟨wc1.heap.size, 2, none⟩ (.int .i8 0)).setCell ⟨wc1.heap.size, 3, none⟩ (.int .i8 0)).heap.size := by simp; omega
          obtain ⟨d0, d1, d2, d3⟩ := (Own8.of_row (f := c) (hrow.of_block (B'.block _ hrow.lt))).at4 hlt |>.1
          simp only [Nat.zero_add] at d0 d1 d2 d3
          refine wpAnyH_ready (rs := [11]) (by kernel_rfl) (by simp) ?_
          refine AllReadyH.cons (o := _) rfl (fun K hK => ?_) AllReadyH.nil
          go_simp
          refine hK.out _ _ ⟨GQ.2.2.2, d0, d1, d2, d3, G3.2.1, G3.2.2.1, G3.2.2.2.1, G3.2.2.2.2⟩ (fun hHeld => ?_)
          clear hK K
          try simp only [List.getElem_toArray, List.getElem_cons_zero, List.getElem_cons_succ, Act.put, List.setIfInBounds_toArray, List.set_cons_zero, List.set_cons_succ]
          refine wpAnyH_take (i := 12) (oi := _) (v := ?_) rfl (by kernel_rfl) (by kernel_rfl) (by kernel_rfl) (fun _ _ _ h => h) (Or.inl ⟨by kernel_rfl, ?_⟩) (by assumption) ?_
          rotate_left
          · intro w hSw; (try dsimp only at hSw); go_simp; first | done | with_reducible rfl
          try simp only [List.getElem_toArray, List.getElem_cons_zero, List.getElem_cons_succ, Act.put, List.setIfInBounds_toArray, List.set_cons_zero, List.set_cons_succ]
          refine wpAnyH_done (by kernel_rfl) ?_ _
          clear HB HQ H3 H1 HO B hz lq pq qq rq l3 p3 q3 r3 s3 c0 c1 c2 c3 pB qB rB sB fB0 fB1 fB2 fB3 d0 d1 d2 d3
          obtain ⟨wt5, hT⟩ : ∃ wt5, ((((wa4.setCell ⟨wc1.heap.size, 0, none⟩ (.int .i8 0)).setCell ⟨wc1.heap.size, 1, none⟩ (.int .i8 0)).setCell ⟨wc1.heap.size, 2, none⟩ (.int .i8 0)).setCell ⟨wc1.heap.size, 3, none⟩ (.int .i8 0)) = wt5 := ⟨_, rfl⟩
          rw [hT] at GB B' GQ G3 G1 GO gz hHeld ⊢
          clear hT hHeld
          have e12 := cutL_none HE.out H12.out
          have HO9 : Hid (wt5.ownsRow (w.heap.size + 3) 31 4 v (cutL (a0, a1, a2, a3) c (k + 1)).length (encL (cutL (a0, a1, a2, a3) c (k + 1)))) := Lib.hid (by rw [e12]; exact GO.out)
          clear GO GB H12 e12
          go_wp2_with fail
          exact ⟨⟨k + 1, v, by omega, by first | go_num | simp, rfl, B', gz, GQ, G3, G1, HO9.out⟩, by simp [intOf]; omega⟩
      · skip
        go_simp
        have HB := Bx.new w0 #[.int .i8 0, .int .i8 0, .int .i8 0, .int .i8 0] 31
        have nb : w.heap.size + 3 ≤ w0.heap.size := hz
        have nv : ∀ x, v.ownBlock = some x → x ≠ w0.heap.size := fun x e => by have := (World.ownsRow.lt HO.out x e).2; omega
        have NV := Lib.hid nv
        clear nv
        replace HQ := HQ.alloc (.cells #[.int .i8 0, .int .i8 0, .int .i8 0, .int .i8 0] 31)
        replace H3 := H3.alloc (.cells #[.int .i8 0, .int .i8 0, .int .i8 0, .int .i8 0] 31)
        replace H1 := H1.alloc (.cells #[.int .i8 0, .int .i8 0, .int .i8 0, .int .i8 0] 31)
        replace HO := Lib.hid (World.ownsRow.alloc HO.out (.cells #[.int .i8 0, .int .i8 0, .int .i8 0, .int .i8 0] 31))
        replace B := al B (.cells #[.int .i8 0, .int .i8 0, .int .i8 0, .int .i8 0] 31)
        replace hz : w.heap.size + 3 ≤ (w0.alloc (.cells #[.int .i8 0, .int .i8 0, .int .i8 0, .int .i8 0] 31)).heap.size := H1.lt
        obtain ⟨wa6, hwa⟩ : ∃ wa6, w0.alloc (.cells #[.int .i8 0, .int .i8 0, .int .i8 0, .int .i8 0] 31) = wa6 := ⟨_, rfl⟩
        rw [hwa] at HB HQ H3 H1 HO B hz ⊢
        clear hwa lq pq qq rq l3 p3 q3 r3 s3 c0 c1 c2 c3
        obtain ⟨lq, pq, qq, rq⟩ := id HQ
        obtain ⟨l3, p3, q3, r3, s3⟩ := id H3
        obtain ⟨c0, c1, c2, c3⟩ := (Own8.of_row (f := c) (hrow.of_block (B.block _ hrow.lt))).at4 hlt |>.1
        simp only [Nat.zero_add] at c0 c1 c2 c3
        refine hK.out _ _ ⟨rq, c0, c1, c2, c3, p3, q3, r3, s3⟩ (fun hHeld => ?_)
        clear hK K
        try simp only [List.getElem_toArray, List.getElem_cons_zero, List.getElem_cons_succ, Act.put, List.setIfInBounds_toArray, List.set_cons_zero, List.set_cons_succ]
        refine wpAnyH_ready (rs := [6]) (by kernel_rfl) (by simp) ?_
        refine AllReadyH.cons (o := _) rfl (fun K hK => ?_) AllReadyH.nil
        go_simp
        refine (partS_any _ _ _ _ _ _ _ _ pl pt pr pb _ HLS.out HLOW.out HE.out).mono ?_
        rintro e wc7 ⟨hb, hcase⟩
        replace HQ := HQ.below hb
        replace H3 := H3.below hb
        replace H1 := H1.below hb
        replace HO := Lib.hid (own_below HO.out hb)
        replace HB := HB.below hb
        replace B := nxt B hb
        replace hz : w.heap.size + 3 ≤ wc7.heap.size := H1.lt
        clear hb lq pq qq rq l3 p3 q3 r3 s3 c0 c1 c2 c3
        obtain ⟨lq, pq, qq, rq⟩ := id HQ
        obtain ⟨l3, p3, q3, r3, s3⟩ := id H3
        obtain ⟨c0, c1, c2, c3⟩ := (Own8.of_row (f := c) (hrow.of_block (B.block _ hrow.lt))).at4 hlt |>.1
        simp only [Nat.zero_add] at c0 c1 c2 c3
        rcases hcase with ⟨h1, h2, rfl⟩ | ⟨h12, rfl⟩
        · have H12 := Lib.hid (And.intro h1 h2)
          clear h1 h2
          refine hK.out _ _ ⟨rq, c0, c1, c2, c3, p3, q3, r3, s3⟩ (fun hHeld => ?_)
          clear hK K
          try simp only [List.getElem_toArray, List.getElem_cons_zero, List.getElem_cons_succ, Act.put, List.setIfInBounds_toArray, List.set_cons_zero, List.set_cons_succ]
          refine wpAnyH_take (i := 7) (oi := _) (v := ?_) rfl (by kernel_rfl) (by kernel_rfl) (by kernel_rfl) (fun _ _ _ h => h) (Or.inl ⟨by kernel_rfl, ?_⟩) (by assumption) ?_
          rotate_left
          · intro w hSw; (try dsimp only at hSw); go_simp; first | done | with_reducible rfl
          try simp only [List.getElem_toArray, List.getElem_cons_zero, List.getElem_cons_succ, Act.put, List.setIfInBounds_toArray, List.set_cons_zero, List.set_cons_succ]
          refine wpAnyH_take (i := 8) (oi := _) (v := ?_) rfl (by kernel_rfl) (by kernel_rfl) (by kernel_rfl) (fun _ _ _ h => h) (Or.inl ⟨by kernel_rfl, ?_⟩) (by assumption) ?_
          rotate_left
          · intro w hSw; (try dsimp only at hSw); go_simp; first | done | with_reducible rfl
          try simp only [List.getElem_toArray, List.getElem_cons_zero, List.getElem_cons_succ, Act.put, List.setIfInBounds_toArray, List.set_cons_zero, List.set_cons_succ]
          refine wpAnyH_take (i := 9) (oi := _) (v := ?_) rfl (by kernel_rfl) (by kernel_rfl) (by kernel_rfl) (fun _ _ _ h => h) (Or.inl ⟨by kernel_rfl, ?_⟩) (by assumption) ?_
          rotate_left
          · intro w hSw; (try dsimp only at hSw); go_simp; first | done | with_reducible rfl
          try simp only [List.getElem_toArray, List.getElem_cons_zero, List.getElem_cons_succ, Act.put, List.setIfInBounds_toArray, List.set_cons_zero, List.set_cons_succ]
          obtain ⟨pB, qB, rB, sB⟩ := HB.cells4
          have fB0 := HB.frozen 0
          have fB1 := HB.frozen 1
          have fB2 := HB.frozen 2
          have fB3 := HB.frozen 3
          have GB := HB.set4 (.int .i8 pl) (.int .i8 pt) (.int .i8 (pr - pl)) (.int .i8 (pb - pt))
          have B' : Below w.heap.size w ((((wc7.setCell ⟨w0.heap.size, 0, none⟩ (.int .i8 pl)).setCell ⟨w0.heap.size, 1, none⟩ (.int .i8 pt)).setCell ⟨w0.heap.size, 2, none⟩ (.int .i8 (pr - pl))).setCell ⟨w0.heap.size, 3, none⟩ (.int .i8 (pb - pt))) := below_set4 (g := w0.heap.size) (v0 := .int .i8 pl) (v1 := .int .i8 pt) (v2 := .int .i8 (pr - pl)) (v3 := .int .i8 (pb - pt)) B (by omega)
          have GQ : Sq ((((wc7.setCell ⟨w0.heap.size, 0, none⟩ (.int .i8 pl)).setCell ⟨w0.heap.size, 1, none⟩ (.int .i8 pt)).setCell ⟨w0.heap.size, 2, none⟩ (.int .i8 (pr - pl))).setCell ⟨w0.heap.size, 3, none⟩ (.int .i8 (pb - pt))) w.heap.size X Y (.slice (some ⟨g, 0, none⟩) n n) := HQ.of_block (by simp) (blk4 (by omega))
          have G3 : Sl ((((wc7.setCell ⟨w0.heap.size, 0, none⟩ (.int .i8 pl)).setCell ⟨w0.heap.size, 1, none⟩ (.int .i8 pt)).setCell ⟨w0.heap.size, 2, none⟩ (.int .i8 (pr - pl))).setCell ⟨w0.heap.size, 3, none⟩ (.int .i8 (pb - pt))) (w.heap.size + 1) a0 a1 a2 a3 := H3.of_block (by simp) (blk4 (by omega))
          have G1 : Bx ((((wc7.setCell ⟨w0.heap.size, 0, none⟩ (.int .i8 pl)).setCell ⟨w0.heap.size, 1, none⟩ (.int .i8 pt)).setCell ⟨w0.heap.size, 2, none⟩ (.int .i8 (pr - pl))).setCell ⟨w0.heap.size, 3, none⟩ (.int .i8 (pb - pt))) (w.heap.size + 2) #[.int .i8 0, .int .i8 0, .slice none 0 0] 29 := H1.of_block (blk4 (by omega))
          have GO : Hid (((((wc7.setCell ⟨w0.heap.size, 0, none⟩ (.int .i8 pl)).setCell ⟨w0.heap.size, 1, none⟩ (.int .i8 pt)).setCell ⟨w0.heap.size, 2, none⟩ (.int .i8 (pr - pl))).setCell ⟨w0.heap.size, 3, none⟩ (.int .i8 (pb - pt))).ownsRow (w.heap.size + 3) 31 4 v (cutL (a0, a1, a2, a3) c k).length (encL (cutL (a0, a1, a2, a3) c k))) := Lib.hid (own_blk HO.out (fun x e => blk4 (NV.out x e)))
          have gz : w.heap.size + 3 ≤ ((((wc7.setCell ⟨w0.heap.size, 0, none⟩ (.int .i8 pl)).setCell ⟨w0.heap.size, 1, none⟩ (.int .i8 pt)).setCell ⟨w0.heap.size, 2, none⟩ (.int .i8 (pr - pl))).setCell ⟨w0.heap.size, 3, none⟩ (.int .i8 (pb - pt))).heap.size := by simp; omega
          obtain ⟨d0, d1, d2, d3⟩ := (Own8.of_row (f := c) (hrow.of_block (B'.block _ hrow.lt))).at4 hlt |>.1
          simp only [Nat.zero_add] at d0 d1 d2 d3
          refine wpAnyH_ready (rs := [11]) (by kernel_rfl) (by simp) ?_
          refine AllReadyH.cons (o := _) rfl (fun K hK => ?_) AllReadyH.nil
          go_simp
          refine hK.out _ _ ⟨GQ.2.2.2, d0, d1, d2, d3, G3.2.1, G3.2.2.1, G3.2.2.2.1, G3.2.2.2.2⟩ (fun hHeld => ?_)
          clear hK K
          try simp only [List.getElem_toArray, List.getElem_cons_zero, List.getElem_cons_succ, Act.put, List.setIfInBounds_toArray, List.set_cons_zero, List.set_cons_succ]
          refine wpAnyH_take (i := 12) (oi := _) (v := ?_) rfl (by kernel_rfl) (by kernel_rfl) (by kernel_rfl) (fun _ _ _ h => h) (Or.inl ⟨by kernel_rfl, ?_⟩) (by assumption) ?_
          rotate_left
          · intro w hSw; (try dsimp only at hSw); go_simp; first | done | with_reducible rfl
          try simp only [List.getElem_toArray, List.getElem_cons_zero, List.getElem_cons_succ, Act.put, List.setIfInBounds_toArray, List.set_cons_zero, List.set_cons_succ]
          refine wpAnyH_done (by kernel_rfl) ?_ _
          clear HB HQ H3 H1 HO B hz lq pq qq rq l3 p3 q3 r3 s3 c0 c1 c2 c3 pB qB rB sB fB0 fB1 fB2 fB3 d0 d1 d2 d3
          obtain ⟨wt8, hT⟩ : ∃ wt8, ((((wc7.setCell ⟨w0.heap.size, 0, none⟩ (.int .i8 pl)).setCell ⟨w0.heap.size, 1, none⟩ (.int .i8 pt)).setCell ⟨w0.heap.size, 2, none⟩ (.int .i8 (pr - pl))).setCell ⟨w0.heap.size, 3, none⟩ (.int .i8 (pb - pt))) = wt8 := ⟨_, rfl⟩
          rw [hT] at GB B' GQ G3 G1 GO gz hHeld ⊢
          clear hT hHeld
          obtain ⟨pB, qB, rB, sB⟩ := GB.cells4
          have fB0 := GB.frozen 0
          obtain ⟨l3, p3, q3, r3, s3⟩ := id G3
          go_upto_region 11 with fail
          have GB : Bx (wt8.setCell ⟨w0.heap.size, 0, none⟩ (.int .i8 (pl - a0))) w0.heap.size #[.int .i8 (pl - a0), .int .i8 pt, .int .i8 (pr - pl), .int .i8 (pb - pt)] 31 := by simpa using GB.set 0 (.int .i8 (pl - a0))
          replace B' : Below w.heap.size w (wt8.setCell ⟨w0.heap.size, 0, none⟩ (.int .i8 (pl - a0))) := B'.setCell (p := ⟨w0.heap.size, 0, none⟩) (by show w.heap.size ≤ w0.heap.size; omega) _
          replace GQ : Sq (wt8.setCell ⟨w0.heap.size, 0, none⟩ (.int .i8 (pl - a0))) w.heap.size X Y (.slice (some ⟨g, 0, none⟩) n n) := GQ.of_block (by simp) (Below.heap_setCell _ _ _ _ (by simp; omega))
          replace G3 : Sl (wt8.setCell ⟨w0.heap.size, 0, none⟩ (.int .i8 (pl - a0))) (w.heap.size + 1) a0 a1 a2 a3 := G3.of_block (by simp) (Below.heap_setCell _ _ _ _ (by simp; omega))
          replace G1 : Bx (wt8.setCell ⟨w0.heap.size, 0, none⟩ (.int .i8 (pl - a0))) (w.heap.size + 2) #[.int .i8 0, .int .i8 0, .slice none 0 0] 29 := G1.of_block (Below.heap_setCell _ _ _ _ (by simp; omega))
          replace GO : Hid ((wt8.setCell ⟨w0.heap.size, 0, none⟩ (.int .i8 (pl - a0))).ownsRow (w.heap.size + 3) 31 4 v (cutL (a0, a1, a2, a3) c k).length (encL (cutL (a0, a1, a2, a3) c k))) := Lib.hid (own_blk GO.out (fun x e => Below.heap_setCell _ _ _ _ (NV.out x e)))
          replace gz : w.heap.size + 3 ≤ (wt8.setCell ⟨w0.heap.size, 0, none⟩ (.int .i8 (pl - a0))).heap.size := by simp; omega
          obtain ⟨wt8x, hT⟩ : ∃ wt8x, wt8.setCell ⟨w0.heap.size, 0, none⟩ (.int .i8 (pl - a0)) = wt8x := ⟨_, rfl⟩
          rw [hT] at GB B' GQ G3 G1 GO gz ⊢
          clear hT pB qB rB sB fB0 l3 p3 q3 r3 s3
          obtain ⟨pB, qB, rB, sB⟩ := GB.cells4
          have fB1 := GB.frozen 1
          obtain ⟨l3, p3, q3, r3, s3⟩ := id G3
          go_upto_region 12 with fail
          have GB : Bx (wt8x.setCell ⟨w0.heap.size, 1, none⟩ (.int .i8 (pt - a1))) w0.heap.size #[.int .i8 (pl - a0), .int .i8 (pt - a1), .int .i8 (pr - pl), .int .i8 (pb - pt)] 31 := by simpa using GB.set 1 (.int .i8 (pt - a1))
          replace B' : Below w.heap.size w (wt8x.setCell ⟨w0.heap.size, 1, none⟩ (.int .i8 (pt - a1))) := B'.setCell (p := ⟨w0.heap.size, 1, none⟩) (by show w.heap.size ≤ w0.heap.size; omega) _
          replace GQ : Sq (wt8x.setCell ⟨w0.heap.size, 1, none⟩ (.int .i8 (pt - a1))) w.heap.size X Y (.slice (some ⟨g, 0, none⟩) n n) := GQ.of_block (by simp) (Below.heap_setCell _ _ _ _ (by simp; omega))
          replace G3 : Sl (wt8x.setCell ⟨w0.heap.size, 1, none⟩ (.int .i8 (pt - a1))) (w.heap.size + 1) a0 a1 a2 a3 := G3.of_block (by simp) (Below.heap_setCell _ _ _ _ (by simp; omega))
          replace G1 : Bx (wt8x.setCell ⟨w0.heap.size, 1, none⟩ (.int .i8 (pt - a1))) (w.heap.size + 2) #[.int .i8 0, .int .i8 0, .slice none 0 0] 29 := G1.of_block (Below.heap_setCell _ _ _ _ (by simp; omega))
          replace GO : Hid ((wt8x.setCell ⟨w0.heap.size, 1, none⟩ (.int .i8 (pt - a1))).ownsRow (w.heap.size + 3) 31 4 v (cutL (a0, a1, a2, a3) c k).length (encL (cutL (a0, a1, a2, a3) c k))) := Lib.hid (own_blk GO.out (fun x e => Below.heap_setCell _ _ _ _ (NV.out x e)))
          replace gz : w.heap.size + 3 ≤ (wt8x.setCell ⟨w0.heap.size, 1, none⟩ (.int .i8 (pt - a1))).heap.size := by simp; omega
          obtain ⟨wt8y, hT⟩ : ∃ wt8y, wt8x.setCell ⟨w0.heap.size, 1, none⟩ (.int .i8 (pt - a1)) = wt8y := ⟨_, rfl⟩
          rw [hT] at GB B' GQ G3 G1 GO gz ⊢
          clear hT pB qB rB sB fB1 l3 p3 q3 r3 s3
          obtain ⟨pB, qB, rB, sB⟩ := GB.cells4
          have hlo : ∀ x, v.ownBlock = some x → w.heap.size + 3 ≤ x ∧ x < wt8y.heap.size := fun x e => World.ownsRow.lt GO.out x e
          have HLO := Lib.hid hlo
          have hle : (cutL (a0, a1, a2, a3) c k).length ≤ 60 := by omega
          have HLE := Lib.hid hle
          have N8 : Hid (∀ j u, (#[.int .i8 (pl - a0), .int .i8 (pt - a1), .int .i8 (pr - pl), .int .i8 (pb - pt)] : Array Value).toList[j]? = some u → (wt8y.alloc (.cells #[.int .i8 (pl - a0), .int .i8 (pt - a1), .int .i8 (pr - pl), .int .i8 (pb - pt)] 31)).cell? ((⟨wt8y.heap.size, 0, none⟩ : Addr).add j) = some u) := new_cells wt8y #[.int .i8 (pl - a0), .int .i8 (pt - a1), .int .i8 (pr - pl), .int .i8 (pb - pt)] 31
          clear hlo hle hlen
          go_wp2_with (at_builtin; refine wpList_append_own _ rfl _ _ 27 rfl (w.heap.size + 3) 31 i0 (.agg #[.int .i8 0, .int .i8 0, .int .i8 0, .int .i8 0]) 4 4 Try.underlying27 HI.out hz0 hz1 hz2 rfl (by decide) v (cutL (a0, a1, a2, a3) c k).length (encL (cutL (a0, a1, a2, a3) c k)) rfl (World.ownsRow.alloc GO.out _) ⟨wt8y.heap.size, 0, none⟩ 1 1 (#[.int .i8 (pl - a0), .int .i8 (pt - a1), .int .i8 (pr - pl), .int .i8 (pb - pt)] : Array Value).toList rfl rfl N8.out (by intro u hu; simp at hu; rcases hu with rfl | rfl | rfl | rfl <;> rfl) (by have := HLE.out; unfold maxLen; omega) (by have := HLE.out; omega) (by simp; omega) ?_)
          intro v9 w9 own9 hg9 hn9
          have B9 : Below w.heap.size w w9 := (al B' _).grown hg9 (al B' _).size (fun b e => by have := (HLO.out b e).1; omega)
          have HQ9 := (GQ.alloc (.cells #[.int .i8 (pl - a0), .int .i8 (pt - a1), .int .i8 (pr - pl), .int .i8 (pb - pt)] 31)).of_block hg9.size (hg9.block _ (by simp; have := GQ.1; omega) (fun e => by have := (HLO.out _ e.symm).1; omega))
          have H39 := (G3.alloc (.cells #[.int .i8 (pl - a0), .int .i8 (pt - a1), .int .i8 (pr - pl), .int .i8 (pb - pt)] 31)).of_block hg9.size (hg9.block _ (by simp; have := G3.1; omega) (fun e => by have := (HLO.out _ e.symm).1; omega))
          have H19 := (G1.alloc (.cells #[.int .i8 (pl - a0), .int .i8 (pt - a1), .int .i8 (pr - pl), .int .i8 (pb - pt)] 31)).of_block (hg9.block _ (by simp; have := G1.lt; omega) (fun e => by have := (HLO.out _ e.symm).1; omega))
          have hz9 : w.heap.size + 3 ≤ w9.heap.size := by have := hg9.size; simp at this; omega
          have hlen9 : (cutL (a0, a1, a2, a3) c (k + 1)).length = (cutL (a0, a1, a2, a3) c k).length + 1 := by rw [cutL_some HE.out H12.out.1 H12.out.2, List.length_append]; rfl
          have own9' : w9.ownsRow (w.heap.size + 3) 31 4 v9 (cutL (a0, a1, a2, a3) c (k + 1)).length (encL (cutL (a0, a1, a2, a3) c (k + 1))) := by rw [hlen9, cut_enc HE.out H12.out.1 H12.out.2]; exact own9
          have HO9 := Lib.hid own9'
          clear own9 own9' hg9 hn9 N8 GO HLO hlen9 pB qB rB sB B' GQ G3 G1 gz GB H12
          go_wp2_with fail
          exact ⟨⟨k + 1, v9, by omega, by first | go_num | simp, rfl, B9, hz9, HQ9, H39, H19, HO9.out⟩, by simp [intOf]; omega⟩
        · have H12 := Lib.hid h12
          clear h12
          refine hK.out _ _ ⟨rq, c0, c1, c2, c3, p3, q3, r3, s3⟩ (fun hHeld => ?_)
          clear hK K
          try simp only [List.getElem_toArray, List.getElem_cons_zero, List.getElem_cons_succ, Act.put, List.setIfInBounds_toArray, List.set_cons_zero, List.set_cons_succ]
          refine wpAnyH_take (i := 7) (oi := _) (v := ?_) rfl (by kernel_rfl) (by kernel_rfl) (by kernel_rfl) (fun _ _ _ h => h) (Or.inl ⟨by kernel_rfl, ?_⟩) (by assumption) ?_
          rotate_left
          · intro w hSw; (try dsimp only at hSw); go_simp; first | done | with_reducible rfl
          try simp only [List.getElem_toArray, List.getElem_cons_zero, List.getElem_cons_succ, Act.put, List.setIfInBounds_toArray, List.set_cons_zero, List.set_cons_succ]
          refine wpAnyH_take (i := 8) (oi := _) (v := ?_) rfl (by kernel_rfl) (by kernel_rfl) (by kernel_rfl) (fun _ _ _ h => h) (Or.inl ⟨by kernel_rfl, ?_⟩) (by assumption) ?_
          rotate_left
          · intro w hSw; (try dsimp only at hSw); go_simp; first | done | with_reducible rfl
          try simp only [List.getElem_toArray, List.getElem_cons_zero, List.getElem_cons_succ, Act.put, List.setIfInBounds_toArray, List.set_cons_zero, List.set_cons_succ]
          refine wpAnyH_take (i := 9) (oi := _) (v := ?_) rfl (by kernel_rfl) (by kernel_rfl) (by kernel_rfl) (fun _ _ _ h => h) (Or.inl ⟨by kernel_rfl, ?_⟩) (by assumption) ?_
          rotate_left
          · intro w hSw; (try dsimp only at hSw); go_simp; first | done | with_reducible rfl
          try simp only [List.getElem_toArray, List.getElem_cons_zero, List.getElem_cons_succ, Act.put, List.setIfInBounds_toArray, List.set_cons_zero, List.set_cons_succ]
          obtain ⟨pB, qB, rB, sB⟩ := HB.cells4
          have fB0 := HB.frozen 0
          have fB1 := HB.frozen 1
          have fB2 := HB.frozen 2
          have fB3 := HB.frozen 3
          have GB := HB.set4 (.int .i8 0) (.int .i8 0) (.int .i8 0) (.int .i8 0)
          have B' : Below w.heap.size w ((((wc7.setCell ⟨w0.heap.size, 0, none⟩ (.int .i8 0)).setCell ⟨w0.heap.size, 1, none⟩ (.int .i8 0)).setCell ⟨w0.heap.size, 2, none⟩ (.int .i8 0)).setCell ⟨w0.heap.size, 3, none⟩ (.int .i8 0)) := below_set4 (g := w0.heap.size) (v0 := .int .i8 0) (v1 := .int .i8 0) (v2 := .int .i8 0) (v3 := .int .i8 0) B (by omega)
          have GQ : Sq ((((wc7.setCell ⟨w0.heap.size, 0, none⟩ (.int .i8 0)).setCell ⟨w0.heap.size, 1, none⟩ (.int .i8 0)).setCell ⟨w0.heap.size, 2, none⟩ (.int .i8 0)).setCell ⟨w0.heap.size, 3, none⟩ (.int .i8 0)) w.heap.size X Y (.slice (some ⟨g, 0, none⟩) n n) := HQ.of_block (by simp) (blk4 (by omega))
          have G3 : Sl ((((wc7.setCell ⟨w0.heap.size, 0, none⟩ (.int .i8 0)).setCell ⟨w0.heap.size, 1, none⟩ (.int .i8 0)).setCell ⟨w0.heap.size, 2, none⟩ (.int .i8 0)).setCell ⟨w0.heap.size, 3, none⟩ (.int .i8 0)) (w.heap.size + 1) a0 a1 a2 a3 := H3.of_block (by simp) (blk4 (by omega))
          have G1 : Bx ((((wc7.setCell ⟨w0.heap.size, 0, none⟩ (.int .i8 0)).setCell ⟨w0.heap.size, 1, none⟩ (.int .i8 0)).setCell ⟨w0.heap.size, 2, none⟩ (.int .i8 0)).setCell ⟨w0.heap.size, 3, none⟩ (.int .i8 0)) (w.heap.size + 2) #[.int .i8 0, .int .i8 0, .slice none 0 0] 29 := H1.of_block (blk4 (by omega))
          have GO : Hid (((((wc7.setCell ⟨w0.heap.size, 0, none⟩ (.int .i8 0)).setCell ⟨w0.heap.size, 1, none⟩ (.int .i8 0)).setCell ⟨w0.heap.size, 2, none⟩ (.int .i8 0)).setCell ⟨w0.heap.size, 3, none⟩ (.int .i8 0)).ownsRow (w.heap.size + 3) 31 4 v (cutL (a0, a1, a2, a3) c k).length (encL (cutL (a0, a1, a2, a3) c k))) := Lib.hid (own_blk HO.out (fun x e => blk4 (NV.out x e)))
          have gz : w.heap.size + 3 ≤ ((((wc7.setCell ⟨w0.heap.size, 0, none⟩ (.int .i8 0)).setCell ⟨w0.heap.size, 1, none⟩ (.int .i8 0)).setCell ⟨w0.heap.size, 2, none⟩ (.int .i8 0)).setCell ⟨w0.heap.size, 3, none⟩ (.int .i8 0)).heap.size := by simp; omega
          obtain ⟨d0, d1, d2, d3⟩ := (Own8.of_row (f := c) (hrow.of_block (B'.block _ hrow.lt))).at4 hlt |>.1
          simp only [Nat.zero_add] at d0 d1 d2 d3
          refine wpAnyH_ready (rs := [11]) (by kernel_rfl) (by simp) ?_
          refine AllReadyH.cons (o := _) rfl (fun K hK => ?_) AllReadyH.nil
          go_simp
          refine hK.out _ _ ⟨GQ.2.2.2, d0, d1, d2, d3, G3.2.1, G3.2.2.1, G3.2.2.2.1, G3.2.2.2.2⟩ (fun hHeld => ?_)
          clear hK K
          try simp only [List.getElem_toArray, List.getElem_cons_zero, List.getElem_cons_succ, Act.put, List.setIfInBounds_toArray, List.set_cons_zero, List.set_cons_succ]
          refine wpAnyH_take (i := 12) (oi := _) (v := ?_) rfl (by kernel_rfl) (by kernel_rfl) (by kernel_rfl) (fun _ _ _ h => h) (Or.inl ⟨by kernel_rfl, ?_⟩) (by assumption) ?_
          rotate_left
          · intro w hSw; (try dsimp only at hSw); go_simp; first | done | with_reducible rfl
          try simp only [List.getElem_toArray, List.getElem_cons_zero, List.getElem_cons_succ, Act.put, List.setIfInBounds_toArray, List.set_cons_zero, List.set_cons_succ]
          refine wpAnyH_done (by kernel_rfl) ?_ _
          clear HB HQ H3 H1 HO B hz lq pq qq rq l3 p3 q3 r3 s3 c0 c1 c2 c3 pB qB rB sB fB0 fB1 fB2 fB3 d0 d1 d2 d3
          obtain ⟨wt9, hT⟩ : ∃ wt9, ((((wc7.setCell ⟨w0.heap.size, 0, none⟩ (.int .i8 0)).setCell ⟨w0.heap.size, 1, none⟩ (.int .i8 0)).setCell ⟨w0.heap.size, 2, none⟩ (.int .i8 0)).setCell ⟨w0.heap.size, 3, none⟩ (.int .i8 0)) = wt9 := ⟨_, rfl⟩
          rw [hT] at GB B' GQ G3 G1 GO gz hHeld ⊢
          clear hT hHeld
          have e12 := cutL_none HE.out H12.out
          have HO9 : Hid (wt9.ownsRow (w.heap.size + 3) 31 4 v (cutL (a0, a1, a2, a3) c (k + 1)).length (encL (cutL (a0, a1, a2, a3) c (k + 1)))) := Lib.hid (by rw [e12]; exact GO.out)
          clear GO GB H12 e12
          go_wp2_with fail
          exact ⟨⟨k + 1, v, by omega, by first | go_num | simp, rfl, B', gz, GQ, G3, G1, HO9.out⟩, by simp [intOf]; omega⟩
    · obtain rfl : k = n := by omega
      obtain ⟨lq, pq, qq, rq⟩ := id HQ
      obtain ⟨l3, p3, q3, r3, s3⟩ := id H3
      have HO := Lib.hid O
      have hlen := cutL_le (a0, a1, a2, a3) c k
      clear O
      go_wp2_with fail
      obtain ⟨A9, g9, cp9, rfl, h91, h92⟩ := own_has HO.out (f := fL (cutL (a0, a1, a2, a3) c k)) (fun j hj => encL_get _ j hj)
      have hrd : Rd8 wr.drew wr.drew.heap.size A9 (4 * (cutL (a0, a1, a2, a3) c k).length) (fL (cutL (a0, a1, a2, a3) c k)) := fun h0 => by
        obtain ⟨e, _, l⟩ := h91 (by omega)
        exact ⟨g9, 0, e, l, fun j hj => (h92 j hj).1⟩
      have HRD := Lib.hid hrd
      clear HO h91 h92 hrd
      replace B := B.drew
      replace H3 : Sl wr.drew (w.heap.size + 1) a0 a1 a2 a3 := H3
      replace H1 : Bx wr.drew (w.heap.size + 2) #[.int .i8 0, .int .i8 0, .slice none 0 0] 29 := H1
      replace hz : w.heap.size + 3 ≤ wr.drew.heap.size := hz
      clear lq pq qq rq l3 p3 q3 r3 s3
      obtain ⟨l3, p3, q3, r3, s3⟩ := id H3
      refine wp_region_held_drew (S := (fun w' => w'.cell? ⟨w.heap.size + 1, 2, none⟩ = some (.int .i8 a2) ∧ w'.cell? ⟨w.heap.size + 1, 3, none⟩ = some (.int .i8 a3))) (by kernel_rfl) ⟨r3, s3⟩ (fun hHeld => ?_)
      obtain ⟨wd, hwd⟩ : ∃ wd, wr.drew = wd := ⟨_, rfl⟩
      rw [hwd] at hHeld B H3 H1 hz HRD l3 p3 q3 r3 s3 ⊢
      clear hwd
      refine wpAnyH_take (i := 0) (oi := _) (v := ?_) rfl (by kernel_rfl) (by kernel_rfl) (by kernel_rfl) (fun _ _ _ h => h) (Or.inl ⟨by kernel_rfl, ?_⟩) (by assumption) ?_
      rotate_left
      · intro w hSw; (try dsimp only at hSw); go_simp; first | done | with_reducible rfl
      try simp only [List.getElem_toArray, List.getElem_cons_zero, List.getElem_cons_succ, Act.put, List.setIfInBounds_toArray, List.set_cons_zero, List.set_cons_succ]
      refine wpAnyH_take (i := 1) (oi := _) (v := ?_) rfl (by kernel_rfl) (by kernel_rfl) (by kernel_rfl) (fun _ _ _ h => h) (Or.inl ⟨by kernel_rfl, ?_⟩) (by assumption) ?_
      rotate_left
      · intro w hSw; (try dsimp only at hSw); go_simp; first | done | with_reducible rfl
      try simp only [List.getElem_toArray, List.getElem_cons_zero, List.getElem_cons_succ, Act.put, List.setIfInBounds_toArray, List.set_cons_zero, List.set_cons_succ]
      refine wpAnyH_take (i := 2) (oi := _) (v := ?_) rfl (by kernel_rfl) (by kernel_rfl) (by kernel_rfl) (fun _ _ _ h => h) (Or.inl ⟨by kernel_rfl, ?_⟩) (by assumption) ?_
      rotate_left
      · intro w hSw; (try dsimp only at hSw); go_simp; first | done | with_reducible rfl
      try simp only [List.getElem_toArray, List.getElem_cons_zero, List.getElem_cons_succ, Act.put, List.setIfInBounds_toArray, List.set_cons_zero, List.set_cons_succ]
      refine wpAnyH_take (i := 3) (oi := _) (v := ?_) rfl (by kernel_rfl) (by kernel_rfl) (by kernel_rfl) (fun _ _ _ h => h) (Or.inl ⟨by kernel_rfl, ?_⟩) (by assumption) ?_
      rotate_left
      · intro w hSw; (try dsimp only at hSw); go_simp; first | done | with_reducible rfl
      try simp only [List.getElem_toArray, List.getElem_cons_zero, List.getElem_cons_succ, Act.put, List.setIfInBounds_toArray, List.set_cons_zero, List.set_cons_succ]
      refine wpAnyH_take (i := 4) (oi := _) (v := ?_) rfl (by kernel_rfl) (by kernel_rfl) (by kernel_rfl) (fun _ _ _ h => h) (Or.inl ⟨by kernel_rfl, ?_⟩) (by assumption) ?_
      rotate_left
      · intro w hSw; (try dsimp only at hSw); go_simp; first | done | with_reducible rfl
      try simp only [List.getElem_toArray, List.getElem_cons_zero, List.getElem_cons_succ, Act.put, List.setIfInBounds_toArray, List.set_cons_zero, List.set_cons_succ]
      refine wpAnyH_ready (rs := [5]) (by kernel_rfl) (by simp) ?_
      refine AllReadyH.cons (o := _) rfl (fun K hK => ?_) AllReadyH.nil
      go_simp
      refine (sorted_any A9 (cutL (a0, a1, a2, a3) c k).length cp9 (fL (cutL (a0, a1, a2, a3) c k)) _ (by omega) HRD.out).mono ?_
      rintro e w5 ⟨hb, go, cpo, L, rfl, hLL, hSo, hOL⟩
      rw [toL_fL] at hSo
      have hsb := B.size
      replace H3 := H3.below hb
      replace H1 := H1.below hb
      replace B := nxt B hb
      have HSo := Lib.hid hSo
      have HOL := Lib.hid hOL
      clear hb hSo hOL l3 p3 q3 r3 s3
      obtain ⟨l3, p3, q3, r3, s3⟩ := id H3
      obtain ⟨p1, q1, r1⟩ := H1.cells3
      have f10 := H1.frozen 0
      have f11 := H1.frozen 1
      have f12 := H1.frozen 2
      have hne : w.heap.size + 1 ≠ w.heap.size + 2 := by omega
      refine hK.out _ _ ⟨r3, s3⟩ (fun hHeld => ?_)
      clear hK K
      try simp only [List.getElem_toArray, List.getElem_cons_zero, List.getElem_cons_succ, Act.put, List.setIfInBounds_toArray, List.set_cons_zero, List.set_cons_succ]
      refine wpAnyH_take (i := 6) (oi := _) (v := ?_) rfl (by kernel_rfl) (by kernel_rfl) (by kernel_rfl) (fun _ _ _ h => h) (Or.inl ⟨by kernel_rfl, ?_⟩) (by assumption) ?_
      rotate_left
      · intro w hSw; (try dsimp only at hSw); go_simp; first | done | with_reducible rfl
      try simp only [List.getElem_toArray, List.getElem_cons_zero, List.getElem_cons_succ, Act.put, List.setIfInBounds_toArray, List.set_cons_zero, List.set_cons_succ]
      refine wpAnyH_ready (rs := [7]) (by kernel_rfl) (by simp) ?_
      refine AllReadyH.cons (o := _) rfl (fun K hK => ?_) AllReadyH.nil
      go_simp
      refine hK.out _ _ ⟨(World.cell?_of_block (w := w5) (blk3 hne)).trans r3, (World.cell?_of_block (w := w5) (blk3 hne)).trans s3⟩ (fun hHeld => ?_)
      clear hK K
      try simp only [List.getElem_toArray, List.getElem_cons_zero, List.getElem_cons_succ, Act.put, List.setIfInBounds_toArray, List.set_cons_zero, List.set_cons_succ]
      refine wpAnyH_take (i := 8) (oi := _) (v := ?_) rfl (by kernel_rfl) (by kernel_rfl) (by kernel_rfl) (fun _ _ _ h => h) (Or.inl ⟨by kernel_rfl, ?_⟩) (by assumption) ?_
      rotate_left
      · intro w hSw; (try dsimp only at hSw); go_simp; first | done | with_reducible rfl
      try simp only [List.getElem_toArray, List.getElem_cons_zero, List.getElem_cons_succ, Act.put, List.setIfInBounds_toArray, List.set_cons_zero, List.set_cons_succ]
      refine wpAnyH_done (by kernel_rfl) ?_ _
      clear hHeld
      go_wp2_with fail
      have F1 := H1.set3 (.int .i8 a2) (.int .i8 a3) (.slice (some ⟨go, 0, none⟩) (cutL (a0, a1, a2, a3) c k).length cpo)
      have B3 := below_set3 (g := w.heap.size + 2) (v0 := .int .i8 a2) (v1 := .int .i8 a3) (v2 := .slice (some ⟨go, 0, none⟩) (cutL (a0, a1, a2, a3) c k).length cpo) B (by omega)
      obtain ⟨x1, y1, z1⟩ := F1.cells3
      obtain ⟨A8, g8, cp8, e8, h81, h82⟩ := OwnQ.has HOL.out
      rw [hLL] at e8 h81 h82
      refine bodyPost_ret (v := .tuple #[.agg #[.int .i8 a2, .int .i8 a3, .slice (some ⟨go, 0, none⟩) (cutL (a0, a1, a2, a3) c k).length cpo], .int .i64 0]) (by simp [results, Try.results30, go_sem, x1, y1, z1]) rfl ⟨B3, _, L, rfl, HSo.out, A8, g8, cp8, SliceOf.kept (w := w5) ⟨e8, fun h => ⟨(h81 h).1, by have := (h81 h).2.1; omega, (h81 h).2.2⟩, h82⟩ (by simp) (fun h => blk3 (by have := (h81 h).2.1; omega))⟩
end Go.Proofs.Yteebkookoidheaa.cutSquare
