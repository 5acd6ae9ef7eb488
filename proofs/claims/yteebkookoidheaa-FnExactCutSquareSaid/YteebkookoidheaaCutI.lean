/-
  The program's CutSquare. Conditions stand at each.
-/
import Derived.Test.YteebkookoidheaaRows
import Derived.Test.YteebkookoidheaaCutM
import Derived.Test.YteebkookoidheaaValidI
import Derived.Test.YteebkookoidheaaTold
import Derived.Test.YteebkookoidheaaSqW
import Derived.Test.YteebkookoidheaaSortS
import Derived.Test.YteebkookoidheaaAt
namespace Go.Proofs.Yteebkookoidheaa.cutSquare
open Go Go.ChangeShapes Go.WideShapes Go.ChangeAt Go.RowKit
set_option linter.unusedVariables false
set_option linter.unusedSimpArgs false
set_option maxRecDepth 100000
set_option maxHeartbeats 2000000
theorem impl_bad (X Y : Int) (g n : Nat) (c : Nat → Int) (a0 a1 a2 a3 : Int) (w : World) (hX : -128 ≤ X ∧ X ≤ 127) (hY : -128 ≤ Y ∧ Y ≤ 127) (hc : ∀ j, -128 ≤ c j ∧ c j ≤ 127) (b0 : -128 ≤ a0 ∧ a0 ≤ 127) (b1 : -128 ≤ a1 ∧ a1 ≤ 127) (b2 : -128 ≤ a2 ∧ a2 ≤ 127) (b3 : -128 ≤ a3 ∧ a3 ≤ 127) (hm : n ≤ 1048576) (hrow : w.rowIs g 31 (4 * n) (fun j => .int .i8 (c j))) (hv : ¬ Valid X Y n c) :
    Calls Try.prog 31 #[.agg #[.int .i8 X, .int .i8 Y, .slice (some ⟨g, 0, none⟩) n n], .agg #[.int .i8 a0, .int .i8 a1, .int .i8 a2, .int .i8 a3]] w fun e w' => Below w.heap.size w w' ∧ ∃ v, e = .returned (.tuple #[.agg #[.int .i8 0, .int .i8 0, v], .int .i64 1]) ∧ HasSlice .i8 4 w' w.heap.size v 0 (fL []) := by
  have HC := Lib.hid hc
  clear hc
  go_enter Try.func31, Try.ntmps31
  go_wp2_with fail
  have HQ := ((Sq.new w X Y (.slice (some ⟨g, 0, none⟩) n n) 29).alloc (.cells #[.int .i8 a0, .int .i8 a1, .int .i8 a2, .int .i8 a3] 31)).alloc (.cells #[.int .i8 0, .int .i8 0, .slice none 0 0] 29)
  have H3 : Sl (((w.alloc (.cells #[.int .i8 X, .int .i8 Y, .slice (some ⟨g, 0, none⟩) n n] 29)).alloc (.cells #[.int .i8 a0, .int .i8 a1, .int .i8 a2, .int .i8 a3] 31)).alloc (.cells #[.int .i8 0, .int .i8 0, .slice none 0 0] 29)) (w.heap.size + 1) a0 a1 a2 a3 := by
    have := (Sl.new (w.alloc (.cells #[.int .i8 X, .int .i8 Y, .slice (some ⟨g, 0, none⟩) n n] 29)) a0 a1 a2 a3 31).alloc (.cells #[.int .i8 0, .int .i8 0, .slice none 0 0] 29)
    rwa [World.size_alloc] at this
  have H1 : Bx (((w.alloc (.cells #[.int .i8 X, .int .i8 Y, .slice (some ⟨g, 0, none⟩) n n] 29)).alloc (.cells #[.int .i8 a0, .int .i8 a1, .int .i8 a2, .int .i8 a3] 31)).alloc (.cells #[.int .i8 0, .int .i8 0, .slice none 0 0] 29)) (w.heap.size + 2) #[.int .i8 0, .int .i8 0, .slice none 0 0] 29 := by
    have := Bx.new ((w.alloc (.cells #[.int .i8 X, .int .i8 Y, .slice (some ⟨g, 0, none⟩) n n] 29)).alloc (.cells #[.int .i8 a0, .int .i8 a1, .int .i8 a2, .int .i8 a3] 31)) #[.int .i8 0, .int .i8 0, .slice none 0 0] 29
    rwa [World.size_alloc, World.size_alloc] at this
  have B := al (al (al (Below.refl w.heap.size w) (.cells #[.int .i8 X, .int .i8 Y, .slice (some ⟨g, 0, none⟩) n n] 29)) (.cells #[.int .i8 a0, .int .i8 a1, .int .i8 a2, .int .i8 a3] 31)) (.cells #[.int .i8 0, .int .i8 0, .slice none 0 0] 29)
  obtain ⟨W0, hW0⟩ : ∃ W0 : World, W0 = (((w.alloc (.cells #[.int .i8 X, .int .i8 Y, .slice (some ⟨g, 0, none⟩) n n] 29)).alloc (.cells #[.int .i8 a0, .int .i8 a1, .int .i8 a2, .int .i8 a3] 31)).alloc (.cells #[.int .i8 0, .int .i8 0, .slice none 0 0] 29)) := ⟨_, rfl⟩
  rw [← hW0] at HQ H3 H1 B ⊢
  clear hW0
  obtain ⟨lq, pq, qq, rq⟩ := id HQ
  obtain ⟨l3, p3, q3, r3, s3⟩ := id H3
  go_wp2_with fail
  refine (implValid_any X Y g n c _ hX hY HC.out hm (hrow.of_block (B.block _ hrow.lt))).mono ?_
  rintro e w1 ⟨hb, ⟨h, _⟩ | ⟨_, rfl⟩⟩
  case inl => exact absurd h hv
  clear lq pq qq rq l3 p3 q3 r3 s3
  replace HQ := HQ.below hb
  replace H3 := H3.below hb
  replace H1 := H1.below hb
  replace B := nxt B hb
  clear hb
  obtain ⟨lq, pq, qq, rq⟩ := id HQ
  obtain ⟨l3, p3, q3, r3, s3⟩ := id H3
  obtain ⟨p1, q1, r1⟩ := H1.cells3
  have f10 := H1.frozen 0
  have f11 := H1.frozen 1
  have f12 := H1.frozen 2
  go_wp2_with fail
  have F1 := H1.set3 (.int .i8 0) (.int .i8 0) (.slice none 0 0)
  have B3 := below_set3 (g := w.heap.size + 2) (v0 := .int .i8 0) (v1 := .int .i8 0) (v2 := .slice none 0 0) B (by omega)
  obtain ⟨x1, y1, z1⟩ := F1.cells3
  refine bodyPost_ret (v := .tuple #[.agg #[.int .i8 0, .int .i8 0, .slice none 0 0], .int .i64 1]) (by simp [results, Try.results31, go_sem, x1, y1, z1]) rfl ⟨B3, _, rfl, ⟨none, 0, 0, rfl, fun h => absurd h (by omega), fun j hj => absurd hj (by omega)⟩⟩
theorem impl_out (X Y : Int) (g n : Nat) (c : Nat → Int) (a0 a1 a2 a3 : Int) (w : World) (hX : -128 ≤ X ∧ X ≤ 127) (hY : -128 ≤ Y ∧ Y ≤ 127) (hc : ∀ j, -128 ≤ c j ∧ c j ≤ 127) (b0 : -128 ≤ a0 ∧ a0 ≤ 127) (b1 : -128 ≤ a1 ∧ a1 ≤ 127) (b2 : -128 ≤ a2 ∧ a2 ≤ 127) (b3 : -128 ≤ a3 ∧ a3 ≤ 127) (hm : n ≤ 1048576) (hrow : w.rowIs g 31 (4 * n) (fun j => .int .i8 (c j))) (hv : Valid X Y n c) (hl : ¬ (0 ≤ a0 ∧ 0 ≤ a1 ∧ 1 ≤ a2 ∧ 1 ≤ a3 ∧ a0 + a2 ≤ X ∧ a1 + a3 ≤ Y)) :
    Calls Try.prog 31 #[.agg #[.int .i8 X, .int .i8 Y, .slice (some ⟨g, 0, none⟩) n n], .agg #[.int .i8 a0, .int .i8 a1, .int .i8 a2, .int .i8 a3]] w fun e w' => Below w.heap.size w w' ∧ ∃ v, e = .returned (.tuple #[.agg #[.int .i8 0, .int .i8 0, v], .int .i64 2]) ∧ HasSlice .i8 4 w' w.heap.size v 0 (fL []) := by
  have HV := Lib.hid hv
  have HL := Lib.hid hl
  clear hv hl
  have HC := Lib.hid hc
  clear hc
  go_enter Try.func31, Try.ntmps31
  go_wp2_with fail
  have HQ := ((Sq.new w X Y (.slice (some ⟨g, 0, none⟩) n n) 29).alloc (.cells #[.int .i8 a0, .int .i8 a1, .int .i8 a2, .int .i8 a3] 31)).alloc (.cells #[.int .i8 0, .int .i8 0, .slice none 0 0] 29)
  have H3 : Sl (((w.alloc (.cells #[.int .i8 X, .int .i8 Y, .slice (some ⟨g, 0, none⟩) n n] 29)).alloc (.cells #[.int .i8 a0, .int .i8 a1, .int .i8 a2, .int .i8 a3] 31)).alloc (.cells #[.int .i8 0, .int .i8 0, .slice none 0 0] 29)) (w.heap.size + 1) a0 a1 a2 a3 := by
    have := (Sl.new (w.alloc (.cells #[.int .i8 X, .int .i8 Y, .slice (some ⟨g, 0, none⟩) n n] 29)) a0 a1 a2 a3 31).alloc (.cells #[.int .i8 0, .int .i8 0, .slice none 0 0] 29)
    rwa [World.size_alloc] at this
  have H1 : Bx (((w.alloc (.cells #[.int .i8 X, .int .i8 Y, .slice (some ⟨g, 0, none⟩) n n] 29)).alloc (.cells #[.int .i8 a0, .int .i8 a1, .int .i8 a2, .int .i8 a3] 31)).alloc (.cells #[.int .i8 0, .int .i8 0, .slice none 0 0] 29)) (w.heap.size + 2) #[.int .i8 0, .int .i8 0, .slice none 0 0] 29 := by
    have := Bx.new ((w.alloc (.cells #[.int .i8 X, .int .i8 Y, .slice (some ⟨g, 0, none⟩) n n] 29)).alloc (.cells #[.int .i8 a0, .int .i8 a1, .int .i8 a2, .int .i8 a3] 31)) #[.int .i8 0, .int .i8 0, .slice none 0 0] 29
    rwa [World.size_alloc, World.size_alloc] at this
  have B := al (al (al (Below.refl w.heap.size w) (.cells #[.int .i8 X, .int .i8 Y, .slice (some ⟨g, 0, none⟩) n n] 29)) (.cells #[.int .i8 a0, .int .i8 a1, .int .i8 a2, .int .i8 a3] 31)) (.cells #[.int .i8 0, .int .i8 0, .slice none 0 0] 29)
  obtain ⟨W0, hW0⟩ : ∃ W0 : World, W0 = (((w.alloc (.cells #[.int .i8 X, .int .i8 Y, .slice (some ⟨g, 0, none⟩) n n] 29)).alloc (.cells #[.int .i8 a0, .int .i8 a1, .int .i8 a2, .int .i8 a3] 31)).alloc (.cells #[.int .i8 0, .int .i8 0, .slice none 0 0] 29)) := ⟨_, rfl⟩
  rw [← hW0] at HQ H3 H1 B ⊢
  clear hW0
  obtain ⟨lq, pq, qq, rq⟩ := id HQ
  obtain ⟨l3, p3, q3, r3, s3⟩ := id H3
  go_wp2_with fail
  refine (implValid_any X Y g n c _ hX hY HC.out hm (hrow.of_block (B.block _ hrow.lt))).mono ?_
  rintro e w1 ⟨hb, ⟨_, rfl⟩ | ⟨h, _⟩⟩
  case inr => exact absurd HV.out h
  clear lq pq qq rq l3 p3 q3 r3 s3
  replace HQ := HQ.below hb
  replace H3 := H3.below hb
  replace H1 := H1.below hb
  replace B := nxt B hb
  clear hb
  obtain ⟨lq, pq, qq, rq⟩ := id HQ
  obtain ⟨l3, p3, q3, r3, s3⟩ := id H3
  go_wp2_with fail
  refine (lw_no X Y a0 a1 a2 a3 _ hX hY b0 b1 b2 b3 HL.out).mono ?_
  rintro e w2 ⟨rfl, hb⟩
  clear lq pq qq rq l3 p3 q3 r3 s3
  replace HQ := HQ.below hb
  replace H3 := H3.below hb
  replace H1 := H1.below hb
  replace B := nxt B hb
  clear hb
  obtain ⟨lq, pq, qq, rq⟩ := id HQ
  obtain ⟨l3, p3, q3, r3, s3⟩ := id H3
  obtain ⟨p1, q1, r1⟩ := H1.cells3
  have f10 := H1.frozen 0
  have f11 := H1.frozen 1
  have f12 := H1.frozen 2
  go_wp2_with fail
  have F1 := H1.set3 (.int .i8 0) (.int .i8 0) (.slice none 0 0)
  have B3 := below_set3 (g := w.heap.size + 2) (v0 := .int .i8 0) (v1 := .int .i8 0) (v2 := .slice none 0 0) B (by omega)
  obtain ⟨x1, y1, z1⟩ := F1.cells3
  refine bodyPost_ret (v := .tuple #[.agg #[.int .i8 0, .int .i8 0, .slice none 0 0], .int .i64 2]) (by simp [results, Try.results31, go_sem, x1, y1, z1]) rfl ⟨B3, _, rfl, ⟨none, 0, 0, rfl, fun h => absurd h (by omega), fun j hj => absurd hj (by omega)⟩⟩
theorem impl_in (X Y : Int) (g n : Nat) (c : Nat → Int) (a0 a1 a2 a3 : Int) (w : World) (hX : -128 ≤ X ∧ X ≤ 127) (hY : -128 ≤ Y ∧ Y ≤ 127) (hc : ∀ j, -128 ≤ c j ∧ c j ≤ 127) (b0 : -128 ≤ a0 ∧ a0 ≤ 127) (b1 : -128 ≤ a1 ∧ a1 ≤ 127) (b2 : -128 ≤ a2 ∧ a2 ≤ 127) (b3 : -128 ≤ a3 ∧ a3 ≤ 127) (hm : n ≤ 1048576) (hrow : w.rowIs g 31 (4 * n) (fun j => .int .i8 (c j))) (hv : Valid X Y n c) (hl : (0 ≤ a0 ∧ 0 ≤ a1 ∧ 1 ≤ a2 ∧ 1 ≤ a3 ∧ a0 + a2 ≤ X ∧ a1 + a3 ≤ Y)) :
    Calls Try.prog 31 #[.agg #[.int .i8 X, .int .i8 Y, .slice (some ⟨g, 0, none⟩) n n], .agg #[.int .i8 a0, .int .i8 a1, .int .i8 a2, .int .i8 a3]] w fun e w' => Below w.heap.size w w' ∧ ∃ v L, e = .returned (.tuple #[.agg #[.int .i8 a2, .int .i8 a3, v], .int .i64 0]) ∧ SortedOf (cutL (a0, a1, a2, a3) c n) L ∧ HasSlice .i8 4 w' w.heap.size v (cutL (a0, a1, a2, a3) c n).length (fL L) := by
  obtain ⟨i0, hi0, hz0, hz1, hz2⟩ := info_parts infoSlab
  have HI := Lib.hid hi0
  clear hi0
  have hn60 := hv.2.2.2.2.1
  have hlow : Low a0 a1 a2 a3 := by have := hv.2.1; have := hv.2.2.2.1; unfold Low; omega
  have hside : X ≤ 12 ∧ Y ≤ 12 := ⟨hv.2.1, hv.2.2.2.1⟩
  have HLOW := Lib.hid hlow
  have HOK := Lib.hid hv.2.2.2.2.2
  have HV := Lib.hid hv
  have HL := Lib.hid hl
  clear hlow hv hl
  have HC := Lib.hid hc
  clear hc
  go_enter Try.func31, Try.ntmps31
  go_wp2_with fail
  have HQ := ((Sq.new w X Y (.slice (some ⟨g, 0, none⟩) n n) 29).alloc (.cells #[.int .i8 a0, .int .i8 a1, .int .i8 a2, .int .i8 a3] 31)).alloc (.cells #[.int .i8 0, .int .i8 0, .slice none 0 0] 29)
  have H3 : Sl (((w.alloc (.cells #[.int .i8 X, .int .i8 Y, .slice (some ⟨g, 0, none⟩) n n] 29)).alloc (.cells #[.int .i8 a0, .int .i8 a1, .int .i8 a2, .int .i8 a3] 31)).alloc (.cells #[.int .i8 0, .int .i8 0, .slice none 0 0] 29)) (w.heap.size + 1) a0 a1 a2 a3 := by
    have := (Sl.new (w.alloc (.cells #[.int .i8 X, .int .i8 Y, .slice (some ⟨g, 0, none⟩) n n] 29)) a0 a1 a2 a3 31).alloc (.cells #[.int .i8 0, .int .i8 0, .slice none 0 0] 29)
    rwa [World.size_alloc] at this
  have H1 : Bx (((w.alloc (.cells #[.int .i8 X, .int .i8 Y, .slice (some ⟨g, 0, none⟩) n n] 29)).alloc (.cells #[.int .i8 a0, .int .i8 a1, .int .i8 a2, .int .i8 a3] 31)).alloc (.cells #[.int .i8 0, .int .i8 0, .slice none 0 0] 29)) (w.heap.size + 2) #[.int .i8 0, .int .i8 0, .slice none 0 0] 29 := by
    have := Bx.new ((w.alloc (.cells #[.int .i8 X, .int .i8 Y, .slice (some ⟨g, 0, none⟩) n n] 29)).alloc (.cells #[.int .i8 a0, .int .i8 a1, .int .i8 a2, .int .i8 a3] 31)) #[.int .i8 0, .int .i8 0, .slice none 0 0] 29
    rwa [World.size_alloc, World.size_alloc] at this
  have B := al (al (al (Below.refl w.heap.size w) (.cells #[.int .i8 X, .int .i8 Y, .slice (some ⟨g, 0, none⟩) n n] 29)) (.cells #[.int .i8 a0, .int .i8 a1, .int .i8 a2, .int .i8 a3] 31)) (.cells #[.int .i8 0, .int .i8 0, .slice none 0 0] 29)
  obtain ⟨W0, hW0⟩ : ∃ W0 : World, W0 = (((w.alloc (.cells #[.int .i8 X, .int .i8 Y, .slice (some ⟨g, 0, none⟩) n n] 29)).alloc (.cells #[.int .i8 a0, .int .i8 a1, .int .i8 a2, .int .i8 a3] 31)).alloc (.cells #[.int .i8 0, .int .i8 0, .slice none 0 0] 29)) := ⟨_, rfl⟩
  rw [← hW0] at HQ H3 H1 B ⊢
  clear hW0
  obtain ⟨lq, pq, qq, rq⟩ := id HQ
  obtain ⟨l3, p3, q3, r3, s3⟩ := id H3
  go_wp2_with fail
  refine (implValid_any X Y g n c _ hX hY HC.out hm (hrow.of_block (B.block _ hrow.lt))).mono ?_
  rintro e w1 ⟨hb, ⟨_, rfl⟩ | ⟨h, _⟩⟩
  case inr => exact absurd HV.out h
  clear lq pq qq rq l3 p3 q3 r3 s3
  replace HQ := HQ.below hb
  replace H3 := H3.below hb
  replace H1 := H1.below hb
  replace B := nxt B hb
  clear hb
  obtain ⟨lq, pq, qq, rq⟩ := id HQ
  obtain ⟨l3, p3, q3, r3, s3⟩ := id H3
  go_wp2_with fail
  refine (lw_yes X Y a0 a1 a2 a3 _ hX hY b0 b1 b2 b3 HL.out).mono ?_
  rintro e w2 ⟨rfl, hb⟩
  clear lq pq qq rq l3 p3 q3 r3 s3
  replace HQ := HQ.below hb
  replace H3 := H3.below hb
  replace H1 := H1.below hb
  replace B := nxt B hb
  clear hb
  obtain ⟨lq, pq, qq, rq⟩ := id HQ
  obtain ⟨l3, p3, q3, r3, s3⟩ := id H3
  have hz' : w.heap.size + 3 ≤ w2.heap.size := H1.lt
  go_wp2_with fail
  clear lq pq qq rq l3 p3 q3 r3 s3
  
  go_loopw [6, 8, 9, 10, 26] (fun t6 t8 t9 t10 t26 wr => ∃ (k : Nat) (v : Value), k ≤ n ∧ t26 = .int .i64 k ∧ v = t6 ∧ Below w.heap.size w wr ∧ w.heap.size + 3 ≤ wr.heap.size ∧ Sq wr w.heap.size X Y (.slice (some ⟨g, 0, none⟩) n n) ∧ Sl wr (w.heap.size + 1) a0 a1 a2 a3 ∧ Bx wr (w.heap.size + 2) #[.int .i8 0, .int .i8 0, .slice none 0 0] 29 ∧ wr.ownsRow (w.heap.size + 3) 31 4 v (cutL (a0, a1, a2, a3) c k).length (encL (cutL (a0, a1, a2, a3) c k))) (fun t6 t8 t9 t10 t26 wr => n - (intOf t26).toNat)
  case atStart => exact ⟨0, _, by omega, rfl, rfl, B, hz', HQ, H3, H1, World.ownsRow_nil _ _ _ _⟩
  case round =>
    clear B HQ H3 H1 hz'
    obtain ⟨k, v, hk, rfl, rfl, B, hz, HQ, H3, H1, O⟩ := hrel
    by_cases hlt : k < n
    · have hslab := (Own8.of_row (f := c) (hrow.of_block (B.block _ hrow.lt)))
      obtain ⟨c0, c1, c2, c3⟩ := hslab.at4 hlt |>.1
      simp only [Nat.zero_add] at c0 c1 c2 c3
      have hlk := (HOK.out k hlt).1
      unfold lies at hlk
      have hls : Low (c (4 * k)) (c (4 * k + 1)) (c (4 * k + 2)) (c (4 * k + 3)) := by unfold Low; omega
      have HLS := Lib.hid hls
      obtain ⟨pl, pt, pr, pb, he⟩ : ∃ pl pt pr pb, Edges (c (4 * k)) (c (4 * k + 1)) (c (4 * k + 2)) (c (4 * k + 3)) a0 a1 a2 a3 pl pt pr pb := ⟨_, _, _, _, edges_of _ _ _ _ _ _ _ _⟩
      have HE := Lib.hid he
      have HO := Lib.hid O
      have hlen := cutL_le (a0, a1, a2, a3) c k
      have hkn : (k : Int) < (n : Int) := by omega
      have hk0 : (0 : Int) ≤ (k : Int) := by omega
      have H5 := Sl.new wr (c (4 * k)) (c (4 * k + 1)) (c (4 * k + 2)) (c (4 * k + 3)) 31
      clear O hslab hls he hlk
      obtain ⟨lq, pq, qq, rq⟩ := id HQ
      obtain ⟨l3, p3, q3, r3, s3⟩ := id H3
      go_wp2_with fail
      refine (partI_any _ _ _ _ _ _ _ _ pl pt pr pb _ HLS.out HLOW.out HE.out).mono ?_
      rintro e w5 ⟨hb, hcase⟩
      clear lq pq qq rq l3 p3 q3 r3 s3 c0 c1 c2 c3 H5
      replace HQ := (HQ.alloc _).below hb
      replace H3 := (H3.alloc _).below hb
      replace H1 := (H1.alloc _).below hb
      replace HO := Lib.hid (own_below (World.ownsRow.alloc HO.out _) hb)
      replace B := nxt (al B _) hb
      have hz5 : w.heap.size + 3 ≤ w5.heap.size := H1.lt
      clear hb hz
      obtain ⟨lq, pq, qq, rq⟩ := id HQ
      obtain ⟨l3, p3, q3, r3, s3⟩ := id H3
      rcases hcase with ⟨h1, h2, rfl⟩ | ⟨h12, rfl⟩
      · have hlo : ∀ b, v.ownBlock = some b → w.heap.size + 3 ≤ b ∧ b < w5.heap.size := fun b e => World.ownsRow.lt HO.out b e
        have HLO := Lib.hid hlo
        have N8 : Hid (∀ j u, (#[.int .i8 (pl - a0), .int .i8 (pt - a1), .int .i8 (pr - pl), .int .i8 (pb - pt)] : Array Value).toList[j]? = some u → ((w5.alloc (.cells #[.int .i8 (pl - a0), .int .i8 (pt - a1), .int .i8 (pr - pl), .int .i8 (pb - pt)] 31)).alloc (.cells #[.int .i8 (pl - a0), .int .i8 (pt - a1), .int .i8 (pr - pl), .int .i8 (pb - pt)] 31)).cell? ((⟨w5.heap.size + 1, 0, none⟩ : Addr).add j) = some u) := by
          have := new_cells (w5.alloc (.cells #[.int .i8 (pl - a0), .int .i8 (pt - a1), .int .i8 (pr - pl), .int .i8 (pb - pt)] 31)) #[.int .i8 (pl - a0), .int .i8 (pt - a1), .int .i8 (pr - pl), .int .i8 (pb - pt)] 31
          rw [World.size_alloc] at this
          exact this
        have hle : (cutL (a0, a1, a2, a3) c k).length ≤ 60 := by omega
        have HLE := Lib.hid hle
        have H12 := Lib.hid (And.intro h1 h2)
        clear hlo h1 h2 hle hlen
        go_wp2_with (at_builtin; refine wpList_append_own _ rfl _ _ 27 rfl (w.heap.size + 3) 31 i0 (.agg #[.int .i8 0, .int .i8 0, .int .i8 0, .int .i8 0]) 4 4 Try.underlying27 HI.out hz0 hz1 hz2 rfl (by decide) v (cutL (a0, a1, a2, a3) c k).length (encL (cutL (a0, a1, a2, a3) c k)) rfl (World.ownsRow.alloc (World.ownsRow.alloc HO.out _) _) ⟨w5.heap.size + 1, 0, none⟩ 1 1 (#[.int .i8 (pl - a0), .int .i8 (pt - a1), .int .i8 (pr - pl), .int .i8 (pb - pt)] : Array Value).toList rfl rfl N8.out (by intro u hu; simp at hu; rcases hu with rfl | rfl | rfl | rfl <;> rfl) (by have := HLE.out; unfold maxLen; omega) (by have := HLE.out; omega) (by simp; omega) ?_)
        intro v9 w9 own9 hg9 hn9
        have B9 : Below w.heap.size w w9 := (al (al B _) _).grown hg9 (al (al B _) _).size (fun b e => by have := (HLO.out b e).1; omega)
        have HQ9 := ((HQ.alloc (.cells #[.int .i8 (pl - a0), .int .i8 (pt - a1), .int .i8 (pr - pl), .int .i8 (pb - pt)] 31)).alloc (.cells #[.int .i8 (pl - a0), .int .i8 (pt - a1), .int .i8 (pr - pl), .int .i8 (pb - pt)] 31)).of_block hg9.size (hg9.block _ (by simp; have := HQ.1; omega) (fun e => by have := (HLO.out _ e.symm).1; omega))
        have H39 := ((H3.alloc (.cells #[.int .i8 (pl - a0), .int .i8 (pt - a1), .int .i8 (pr - pl), .int .i8 (pb - pt)] 31)).alloc (.cells #[.int .i8 (pl - a0), .int .i8 (pt - a1), .int .i8 (pr - pl), .int .i8 (pb - pt)] 31)).of_block hg9.size (hg9.block _ (by simp; have := H3.1; omega) (fun e => by have := (HLO.out _ e.symm).1; omega))
        have H19 := ((H1.alloc (.cells #[.int .i8 (pl - a0), .int .i8 (pt - a1), .int .i8 (pr - pl), .int .i8 (pb - pt)] 31)).alloc (.cells #[.int .i8 (pl - a0), .int .i8 (pt - a1), .int .i8 (pr - pl), .int .i8 (pb - pt)] 31)).of_block (hg9.block _ (by simp; have := H1.lt; omega) (fun e => by have := (HLO.out _ e.symm).1; omega))
        have hz9 : w.heap.size + 3 ≤ w9.heap.size := by have := hg9.size; simp at this; omega
        have hlen9 : (cutL (a0, a1, a2, a3) c (k + 1)).length = (cutL (a0, a1, a2, a3) c k).length + 1 := by rw [cutL_some HE.out H12.out.1 H12.out.2, List.length_append]; rfl
        have own9' : w9.ownsRow (w.heap.size + 3) 31 4 v9 (cutL (a0, a1, a2, a3) c (k + 1)).length (encL (cutL (a0, a1, a2, a3) c (k + 1))) := by rw [hlen9, cut_enc HE.out H12.out.1 H12.out.2]; exact own9
        have HO9 := Lib.hid own9'
        clear own9 own9' hg9 hn9 N8 HO HLO hlen9 lq pq qq rq l3 p3 q3 r3 s3 B HQ H3 H1 hz5
        go_wp2_with fail
        exact ⟨⟨k + 1, v9, by omega, by first | go_num | simp, rfl, B9, hz9, HQ9, H39, H19, HO9.out⟩, by simp [intOf]; omega⟩
      · have e12 := cutL_none HE.out h12
        have E12 := Lib.hid e12
        clear e12 h12 hlen
        have B9 := al B (.cells #[.int .i8 0, .int .i8 0, .int .i8 0, .int .i8 0] 31)
        have HQ9 := HQ.alloc (.cells #[.int .i8 0, .int .i8 0, .int .i8 0, .int .i8 0] 31)
        have H39 := H3.alloc (.cells #[.int .i8 0, .int .i8 0, .int .i8 0, .int .i8 0] 31)
        have H19 := H1.alloc (.cells #[.int .i8 0, .int .i8 0, .int .i8 0, .int .i8 0] 31)
        have HO9 : Hid ((w5.alloc (.cells #[.int .i8 0, .int .i8 0, .int .i8 0, .int .i8 0] 31)).ownsRow (w.heap.size + 3) 31 4 v (cutL (a0, a1, a2, a3) c (k + 1)).length (encL (cutL (a0, a1, a2, a3) c (k + 1)))) := Lib.hid (by rw [E12.out]; exact World.ownsRow.alloc HO.out _)
        have hz9 : w.heap.size + 3 ≤ (w5.alloc (.cells #[.int .i8 0, .int .i8 0, .int .i8 0, .int .i8 0] 31)).heap.size := by simp; omega
        clear B HQ H3 H1 HO hz5 lq pq qq rq l3 p3 q3 r3 s3
        go_wp2_with fail
        exact ⟨⟨k + 1, v, by omega, by first | go_num | simp, rfl, B9, hz9, HQ9, H39, H19, HO9.out⟩, by simp [intOf]; omega⟩
    · obtain rfl : k = n := by omega
      have HO := Lib.hid O
      have hlen := cutL_le (a0, a1, a2, a3) c k
      clear O
      obtain ⟨lq, pq, qq, rq⟩ := id HQ
      obtain ⟨l3, p3, q3, r3, s3⟩ := id H3
      go_wp2_with fail
      rcases HO.out.2 with ⟨rfl, h0⟩ | ⟨g9, cp9, cur9, rfl, hg9, hcur, hn9, hm9, hs9, ht9⟩
      · skip
        refine (squareWith_none _ _ _ _).mono ?_
        rintro e w5 ⟨rfl, hb⟩
        replace H1 := H1.below hb
        replace B := nxt B hb
        have hnil : cutL (a0, a1, a2, a3) c k = [] := List.length_eq_zero_iff.1 h0
        have HNIL := Lib.hid hnil
        clear hb lq pq qq rq l3 p3 q3 r3 s3 HQ HO hnil h0 hlen
        obtain ⟨p1, q1, r1⟩ := H1.cells3
        have f10 := H1.frozen 0
        have f11 := H1.frozen 1
        have f12 := H1.frozen 2
        go_wp2_with fail
        have F1 := H1.set3 (.int .i8 a2) (.int .i8 a3) (.slice none 0 0)
        have B3 := below_set3 (g := w.heap.size + 2) (v0 := .int .i8 a2) (v1 := .int .i8 a3) (v2 := .slice none 0 0) B (by omega)
        obtain ⟨x1, y1, z1⟩ := F1.cells3
        rw [HNIL.out]
        refine bodyPost_ret (v := .tuple #[.agg #[.int .i8 a2, .int .i8 a3, .slice none 0 0], .int .i64 0]) (by simp [results, Try.results31, go_sem, x1, y1, z1]) rfl ⟨B3, _, [], rfl, ⟨List.Perm.refl _, List.Pairwise.nil⟩, ⟨none, 0, 0, rfl, fun h => absurd h (by simp), fun j hj => absurd hj (by simp)⟩⟩
      · obtain ⟨A9, g9', cp9', S9⟩ := own_has HO.out (f := fL (cutL (a0, a1, a2, a3) c k)) (fun j hj => encL_get _ j hj)
        have hO9 : Own8 wr g9 0 (4 * (cutL (a0, a1, a2, a3) c k).length) (fL (cutL (a0, a1, a2, a3) c k)) := by
          rcases Nat.eq_zero_or_pos (cutL (a0, a1, a2, a3) c k).length with hk0 | hk0
          · intro j hj; omega
          · have e1 := S9.1
            have e2 := (S9.2.1 hk0).1
            simp only [Value.slice.injEq] at e1
            rw [← e1.1] at e2
            injection e2 with e2
            injection e2 with e2
            subst e2
            exact S9.2.2
        have hlt9 : g9 < wr.heap.size := (Array.getElem?_eq_some_iff.1 hcur).1
        clear S9 hcur hs9 ht9
        refine (squareWith_any _ _ g9 (cutL (a0, a1, a2, a3) c k).length cp9 _ _ (by omega) hlt9 hO9).mono ?_
        rintro e w5 ⟨rfl, hgr, L, hSo, hOL⟩
        rw [toL_fL] at hSo
        replace H1 := H1.of_block (hgr.block _ H1.lt (fun e => by injection e; omega))
        replace B := below_grown B hgr B.size (by omega)
        have hlt5 : g9 < w5.heap.size := Nat.lt_of_lt_of_le hlt9 hgr.size
        have HSo := Lib.hid hSo
        have HOL := Lib.hid hOL
        clear hgr hSo hOL hO9 lq pq qq rq l3 p3 q3 r3 s3 HQ HO hlen
        obtain ⟨p1, q1, r1⟩ := H1.cells3
        have f10 := H1.frozen 0
        have f11 := H1.frozen 1
        have f12 := H1.frozen 2
        go_wp2_with fail
        have F1 := H1.set3 (.int .i8 a2) (.int .i8 a3) (.slice (some ⟨g9, 0, none⟩) (cutL (a0, a1, a2, a3) c k).length cp9)
        have B3 := below_set3 (g := w.heap.size + 2) (v0 := .int .i8 a2) (v1 := .int .i8 a3) (v2 := .slice (some ⟨g9, 0, none⟩) (cutL (a0, a1, a2, a3) c k).length cp9) B (by omega)
        obtain ⟨x1, y1, z1⟩ := F1.cells3
        refine bodyPost_ret (v := .tuple #[.agg #[.int .i8 a2, .int .i8 a3, .slice (some ⟨g9, 0, none⟩) (cutL (a0, a1, a2, a3) c k).length cp9], .int .i64 0]) (by simp [results, Try.results31, go_sem, x1, y1, z1]) rfl ⟨B3, _, L, rfl, HSo.out, ⟨some ⟨g9, 0, none⟩, g9, cp9, rfl, fun _ => ⟨rfl, by omega, by simp; exact hlt5⟩, OwnK.of_block (kd := .i8) HOL.out (blk3 (by omega))⟩⟩
end Go.Proofs.Yteebkookoidheaa.cutSquare
