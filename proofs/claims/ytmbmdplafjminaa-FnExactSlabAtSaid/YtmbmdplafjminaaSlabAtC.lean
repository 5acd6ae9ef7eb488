/-
  Both sides of SlabAt answer the same. Conditions stand at each.
-/
import Derived.Test.YtmbmdplafjminaaRows
import Derived.Test.YtmbmdplafjminaaTold
import Derived.Test.YtmbmdplafjminaaLawA
import Derived.Deep.RegionHeld3
namespace Go.Proofs.Ytmbmdplafjminaa.slabAt
open Go Go.ChangeShapes Go.WideShapes Go.ChangeAt Go.RowKit
set_option linter.unusedVariables false
set_option linter.unusedSimpArgs false
set_option maxRecDepth 100000
set_option maxHeartbeats 2000000

theorem gridN_bd (c : Nat → Int) (n p : Nat) : 0 ≤ gridN c n p ∧ gridN c n p ≤ n := by
  induction n with
  | zero => exact ⟨by show (0 : Int) ≤ 0; omega, by show (0 : Int) ≤ _; omega⟩
  | succ k ih =>
    unfold gridN
    split <;> constructor <;> omega

theorem spec_bad (X Y a b : Int) (g n : Nat) (c : Nat → Int) (w : World) (hX : -128 ≤ X ∧ X ≤ 127) (hY : -128 ≤ Y ∧ Y ≤ 127) (hc : ∀ j, -128 ≤ c j ∧ c j ≤ 127) (hm : n ≤ 1048576) (hrow : w.rowIs g 58 (4 * n) (fun j => .int .i8 (c j))) (ha : -128 ≤ a ∧ a ≤ 127) (hbb : -128 ≤ b ∧ b ≤ 127) (hv : ¬ Valid X Y n c) :
    Calls Try.prog 28 #[.agg #[.int .i8 X, .int .i8 Y, .slice (some ⟨g, 0, none⟩) n n], .agg #[.int .i8 a, .int .i8 b]] w fun e w' => e = .returned (.tuple #[.int .i64 0, .int .i64 1]) ∧ Below w.heap.size w w' := by
  go_enter Try.func28, Try.ntmps28
  go_wp2_with fail
  have HQ := (Sq.new w X Y (.slice (some ⟨g, 0, none⟩) n n) 32).alloc (.cells #[.int .i8 a, .int .i8 b] 45)
  have H3 : C2 ((w.alloc (.cells #[.int .i8 X, .int .i8 Y, .slice (some ⟨g, 0, none⟩) n n] 32)).alloc (.cells #[.int .i8 a, .int .i8 b] 45)) (w.heap.size + 1) a b := by
    have := C2.new (w.alloc (.cells #[.int .i8 X, .int .i8 Y, .slice (some ⟨g, 0, none⟩) n n] 32)) a b 45
    rwa [World.size_alloc] at this
  have B := al (al (Below.refl w.heap.size w) (.cells #[.int .i8 X, .int .i8 Y, .slice (some ⟨g, 0, none⟩) n n] 32)) (.cells #[.int .i8 a, .int .i8 b] 45)
  obtain ⟨W0, hW0⟩ : ∃ W0 : World, W0 = ((w.alloc (.cells #[.int .i8 X, .int .i8 Y, .slice (some ⟨g, 0, none⟩) n n] 32)).alloc (.cells #[.int .i8 a, .int .i8 b] 45)) := ⟨_, rfl⟩
  rw [← hW0] at HQ H3 B ⊢
  clear hW0
  obtain ⟨lq, pq, qq, rq⟩ := id HQ
  obtain ⟨l3, p3, q3⟩ := id H3
  by_cases hi : insd X Y a b
  · refine (is_yes X Y a b w.heap.size _ _ hX hY ha hbb HQ hi).mono ?_
    rintro e w1 ⟨rfl, hb⟩
    replace HQ := HQ.below hb
    replace H3 := H3.below hb
    replace B := nxt B hb
    clear hb lq pq qq rq l3 p3 q3
    obtain ⟨lq, pq, qq, rq⟩ := id HQ
    obtain ⟨l3, p3, q3⟩ := id H3
    go_wp2_with fail
    refine (told_bad X Y w.heap.size g n c true _ hX hY hc hm HQ (hrow.of_block (B.block _ hrow.lt)) hv).mono ?_
    rintro e w2 ⟨rfl, hb⟩
    replace HQ := HQ.below hb
    replace H3 := H3.below hb
    replace B := nxt B hb
    clear hb lq pq qq rq l3 p3 q3
    obtain ⟨lq, pq, qq, rq⟩ := id HQ
    obtain ⟨l3, p3, q3⟩ := id H3
    go_wp2_with fail
    exact bodyPost_ret (results_tmp2 Try.results28 _ _ _) rfl ⟨rfl, B⟩
  · refine (is_no X Y a b w.heap.size _ _ hX hY ha hbb HQ hi).mono ?_
    rintro e w1 ⟨rfl, hb⟩
    replace HQ := HQ.below hb
    replace H3 := H3.below hb
    replace B := nxt B hb
    clear hb lq pq qq rq l3 p3 q3
    obtain ⟨lq, pq, qq, rq⟩ := id HQ
    obtain ⟨l3, p3, q3⟩ := id H3
    go_wp2_with fail
    refine (told_bad X Y w.heap.size g n c false _ hX hY hc hm HQ (hrow.of_block (B.block _ hrow.lt)) hv).mono ?_
    rintro e w2 ⟨rfl, hb⟩
    replace HQ := HQ.below hb
    replace H3 := H3.below hb
    replace B := nxt B hb
    clear hb lq pq qq rq l3 p3 q3
    obtain ⟨lq, pq, qq, rq⟩ := id HQ
    obtain ⟨l3, p3, q3⟩ := id H3
    go_wp2_with fail
    exact bodyPost_ret (results_tmp2 Try.results28 _ _ _) rfl ⟨rfl, B⟩

theorem spec_out (X Y a b : Int) (g n : Nat) (c : Nat → Int) (w : World) (hX : -128 ≤ X ∧ X ≤ 127) (hY : -128 ≤ Y ∧ Y ≤ 127) (hc : ∀ j, -128 ≤ c j ∧ c j ≤ 127) (hm : n ≤ 1048576) (hrow : w.rowIs g 58 (4 * n) (fun j => .int .i8 (c j))) (ha : -128 ≤ a ∧ a ≤ 127) (hbb : -128 ≤ b ∧ b ≤ 127) (hv : Valid X Y n c) (hi : ¬ insd X Y a b) :
    Calls Try.prog 28 #[.agg #[.int .i8 X, .int .i8 Y, .slice (some ⟨g, 0, none⟩) n n], .agg #[.int .i8 a, .int .i8 b]] w fun e w' => e = .returned (.tuple #[.int .i64 0, .int .i64 2]) ∧ Below w.heap.size w w' := by
  go_enter Try.func28, Try.ntmps28
  go_wp2_with fail
  have HQ := (Sq.new w X Y (.slice (some ⟨g, 0, none⟩) n n) 32).alloc (.cells #[.int .i8 a, .int .i8 b] 45)
  have H3 : C2 ((w.alloc (.cells #[.int .i8 X, .int .i8 Y, .slice (some ⟨g, 0, none⟩) n n] 32)).alloc (.cells #[.int .i8 a, .int .i8 b] 45)) (w.heap.size + 1) a b := by
    have := C2.new (w.alloc (.cells #[.int .i8 X, .int .i8 Y, .slice (some ⟨g, 0, none⟩) n n] 32)) a b 45
    rwa [World.size_alloc] at this
  have B := al (al (Below.refl w.heap.size w) (.cells #[.int .i8 X, .int .i8 Y, .slice (some ⟨g, 0, none⟩) n n] 32)) (.cells #[.int .i8 a, .int .i8 b] 45)
  obtain ⟨W0, hW0⟩ : ∃ W0 : World, W0 = ((w.alloc (.cells #[.int .i8 X, .int .i8 Y, .slice (some ⟨g, 0, none⟩) n n] 32)).alloc (.cells #[.int .i8 a, .int .i8 b] 45)) := ⟨_, rfl⟩
  rw [← hW0] at HQ H3 B ⊢
  clear hW0
  obtain ⟨lq, pq, qq, rq⟩ := id HQ
  obtain ⟨l3, p3, q3⟩ := id H3
  refine (is_no X Y a b w.heap.size _ _ hX hY ha hbb HQ hi).mono ?_
  rintro e w1 ⟨rfl, hb⟩
  replace HQ := HQ.below hb
  replace H3 := H3.below hb
  replace B := nxt B hb
  clear hb lq pq qq rq l3 p3 q3
  obtain ⟨lq, pq, qq, rq⟩ := id HQ
  obtain ⟨l3, p3, q3⟩ := id H3
  go_wp2_with fail
  refine (told_ok X Y w.heap.size g n c false _ hX hY hc hm HQ (hrow.of_block (B.block _ hrow.lt)) hv).mono ?_
  rintro e w2 ⟨rfl, hb⟩
  replace HQ := HQ.below hb
  replace H3 := H3.below hb
  replace B := nxt B hb
  clear hb lq pq qq rq l3 p3 q3
  obtain ⟨lq, pq, qq, rq⟩ := id HQ
  obtain ⟨l3, p3, q3⟩ := id H3
  go_wp2_with fail
  exact bodyPost_ret (results_tmp2 Try.results28 _ _ _) rfl ⟨rfl, B⟩

theorem spec_in (X Y a b : Int) (g n : Nat) (c : Nat → Int) (ax ay : Nat) (w : World) (hX : -128 ≤ X ∧ X ≤ 127) (hY : -128 ≤ Y ∧ Y ≤ 127) (hc : ∀ j, -128 ≤ c j ∧ c j ≤ 127) (hm : n ≤ 1048576) (hrow : w.rowIs g 58 (4 * n) (fun j => .int .i8 (c j))) (ha : -128 ≤ a ∧ a ≤ 127) (hbb : -128 ≤ b ∧ b ≤ 127) (hv : Valid X Y n c) (ea : a = ax) (eb : b = ay) (hi : insd X Y a b) :
    Calls Try.prog 28 #[.agg #[.int .i8 X, .int .i8 Y, .slice (some ⟨g, 0, none⟩) n n], .agg #[.int .i8 a, .int .i8 b]] w fun e w' => e = .returned (.tuple #[.int .i64 (gridN c n (ay * 12 + ax) - 1), .int .i64 0]) ∧ Below w.heap.size w w' := by
  subst ea eb
  go_enter Try.func28, Try.ntmps28
  go_wp2_with fail
  have HQ := (Sq.new w X Y (.slice (some ⟨g, 0, none⟩) n n) 32).alloc (.cells #[.int .i8 (ax : Int), .int .i8 (ay : Int)] 45)
  have H3 : C2 ((w.alloc (.cells #[.int .i8 X, .int .i8 Y, .slice (some ⟨g, 0, none⟩) n n] 32)).alloc (.cells #[.int .i8 (ax : Int), .int .i8 (ay : Int)] 45)) (w.heap.size + 1) (ax : Int) (ay : Int) := by
    have := C2.new (w.alloc (.cells #[.int .i8 X, .int .i8 Y, .slice (some ⟨g, 0, none⟩) n n] 32)) (ax : Int) (ay : Int) 45
    rwa [World.size_alloc] at this
  have B := al (al (Below.refl w.heap.size w) (.cells #[.int .i8 X, .int .i8 Y, .slice (some ⟨g, 0, none⟩) n n] 32)) (.cells #[.int .i8 (ax : Int), .int .i8 (ay : Int)] 45)
  obtain ⟨W0, hW0⟩ : ∃ W0 : World, W0 = ((w.alloc (.cells #[.int .i8 X, .int .i8 Y, .slice (some ⟨g, 0, none⟩) n n] 32)).alloc (.cells #[.int .i8 (ax : Int), .int .i8 (ay : Int)] 45)) := ⟨_, rfl⟩
  rw [← hW0] at HQ H3 B ⊢
  clear hW0
  obtain ⟨lq, pq, qq, rq⟩ := id HQ
  obtain ⟨l3, p3, q3⟩ := id H3
  refine (is_yes X Y (ax : Int) (ay : Int) w.heap.size _ _ hX hY ha hbb HQ hi).mono ?_
  rintro e w1 ⟨rfl, hb⟩
  replace HQ := HQ.below hb
  replace H3 := H3.below hb
  replace B := nxt B hb
  clear hb lq pq qq rq l3 p3 q3
  obtain ⟨lq, pq, qq, rq⟩ := id HQ
  obtain ⟨l3, p3, q3⟩ := id H3
  go_wp2_with fail
  refine (told_ok X Y w.heap.size g n c true _ hX hY hc hm HQ (hrow.of_block (B.block _ hrow.lt)) hv).mono ?_
  rintro e w2 ⟨rfl, hb⟩
  replace HQ := HQ.below hb
  replace H3 := H3.below hb
  replace B := nxt B hb
  clear hb lq pq qq rq l3 p3 q3
  obtain ⟨lq, pq, qq, rq⟩ := id HQ
  obtain ⟨l3, p3, q3⟩ := id H3
  go_wp2_with fail
  refine (lay_any X Y w.heap.size g n c _ hX hY hc hm HQ (hrow.of_block (B.block _ hrow.lt))).mono ?_
  rintro e w3 ⟨hb, cs, hsz, hone, hcase⟩
  rcases hcase with ⟨_, hcell, rfl⟩ | ⟨hn, _⟩
  case inr => exact absurd hv hn
  replace HQ := HQ.below hb
  replace H3 := H3.below hb
  replace B := nxt B hb
  clear hb lq pq qq rq l3 p3 q3
  obtain ⟨lq, pq, qq, rq⟩ := id HQ
  obtain ⟨l3, p3, q3⟩ := id H3
  go_wp2_with (refine wpList_store_row rfl 93 (.tmp 7) (.tmp 17) rfl w3.heap.size cs rfl rfl 93 Try.zeroCells93 (heap_alloc_new w3 _) (by rw [info93, hsz]) (by rw [zc_size, hsz]) hone ?_)
  have hx12 : ax < 12 := by have := hi.2.2.1; have := hv.2.1; omega
  have hy12 : ay < 12 := by have := hi.2.2.2; have := hv.2.2.2.1; omega
  have hxi : (ax : Int) < 12 := by omega
  have hyi : (ay : Int) < 12 := by omega
  have hbd := gridN_bd c n (ay * 12 + ax)
  have hn60 := hv.2.2.2.2.1
  have hG : (w3.alloc (.cells Try.zeroCells93 93)).heap[w3.heap.size]? = some (.cells Try.zeroCells93 93 (0, 0)) := heap_alloc_new w3 _
  replace B := below_setRow (al B (.cells Try.zeroCells93 93)) B.size cs
  replace H3 := H3.alloc (.cells Try.zeroCells93 93)
  replace H3 : C2 ((w3.alloc (.cells Try.zeroCells93 93)).setRow w3.heap.size cs) (w.heap.size + 1) (ax : Int) (ay : Int) := H3.of_block (by rw [setRow_size]; exact Nat.le_refl _) (setRow_other _ _ _ _ (by omega))
  have hcl : ((w3.alloc (.cells Try.zeroCells93 93)).setRow w3.heap.size cs).cell? ⟨w3.heap.size, ay * 12 + ax, none⟩ = some (.int .i64 (gridN c n (ay * 12 + ax))) := (cell_setRow_same _ _ _ _ _ _ _ hG).trans (hcell _ (by omega))
  obtain ⟨W4, hW4⟩ : ∃ W4 : World, W4 = ((w3.alloc (.cells Try.zeroCells93 93)).setRow w3.heap.size cs) := ⟨_, rfl⟩
  rw [← hW4] at B H3 hcl ⊢
  clear hW4 hG HQ lq pq qq rq l3 p3 q3
  replace B := B.drew
  replace H3 : C2 W4.drew (w.heap.size + 1) (ax : Int) (ay : Int) := H3
  replace hcl : W4.drew.cell? ⟨w3.heap.size, ay * 12 + ax, none⟩ = some (.int .i64 (gridN c n (ay * 12 + ax))) := hcl
  obtain ⟨l3, p3, q3⟩ := id H3
  have w1' : IntKind.i64.wrap (gridN c n (ay * 12 + ax) - 1) = gridN c n (ay * 12 + ax) - 1 := IntWalk.i64_in _ (by omega)
  refine wp_region_held_drew (S := (fun w' => w'.cell? ⟨w.heap.size + 1, 0, none⟩ = some (.int .i8 (ax : Int)) ∧ w'.cell? ⟨w.heap.size + 1, 1, none⟩ = some (.int .i8 (ay : Int)) ∧ w'.cell? ⟨w3.heap.size, ay * 12 + ax, none⟩ = some (.int .i64 (gridN c n (ay * 12 + ax))))) (by kernel_rfl) ⟨p3, q3, hcl⟩ (fun hHeld => ?_)
  refine wpAnyH_take (i := 0) (oi := _) (v := ?_) rfl (by kernel_rfl) (by kernel_rfl) (by kernel_rfl) (fun _ _ _ h => h) (Or.inl ⟨by kernel_rfl, ?_⟩) (by assumption) ?_
  rotate_left
  · intro w hSw; (try dsimp only at hSw); go_simp; first | done | with_reducible rfl
  try simp only [List.getElem_toArray, List.getElem_cons_zero, List.getElem_cons_succ, Act.put, List.setIfInBounds_toArray, List.set_cons_zero, List.set_cons_succ]
  refine wpAnyH_take (i := 1) (oi := _) (v := ?_) rfl (by kernel_rfl) (by kernel_rfl) (by kernel_rfl) (fun _ _ _ h => h) (Or.inl ⟨by kernel_rfl, ?_⟩) (by assumption) ?_
  rotate_left
  · intro w hSw; (try dsimp only at hSw); go_simp; first | done | with_reducible rfl
  try simp only [List.getElem_toArray, List.getElem_cons_zero, List.getElem_cons_succ, Act.put, List.setIfInBounds_toArray, List.set_cons_zero, List.set_cons_succ]
  refine wpAnyH_take (i := 2) (oi := _) (v := ?_) rfl (by kernel_rfl) (by kernel_rfl) (by kernel_rfl) (fun _ _ _ h => h) (Or.inl ⟨by kernel_rfl, ?_⟩) (by assumption) ?_
  rotate_left
  · intro w hSw; (try dsimp only at hSw); go_simp; first | done | with_reducible rfl
  try simp only [List.getElem_toArray, List.getElem_cons_zero, List.getElem_cons_succ, Act.put, List.setIfInBounds_toArray, List.set_cons_zero, List.set_cons_succ]
  refine wpAnyH_take (i := 3) (oi := _) (v := ?_) rfl (by kernel_rfl) (by kernel_rfl) (by kernel_rfl) (fun _ _ _ h => h) (Or.inl ⟨by kernel_rfl, ?_⟩) (by assumption) ?_
  rotate_left
  · intro w hSw; (try dsimp only at hSw); go_simp; first | done | with_reducible rfl
  try simp only [List.getElem_toArray, List.getElem_cons_zero, List.getElem_cons_succ, Act.put, List.setIfInBounds_toArray, List.set_cons_zero, List.set_cons_succ]
  refine wpAnyH_take (i := 4) (oi := _) (v := ?_) rfl (by kernel_rfl) (by kernel_rfl) (by kernel_rfl) (fun _ _ _ h => h) (Or.inl ⟨by kernel_rfl, ?_⟩) (by assumption) ?_
  rotate_left
  · intro w hSw; (try dsimp only at hSw); go_simp; first | done | with_reducible rfl
  try simp only [List.getElem_toArray, List.getElem_cons_zero, List.getElem_cons_succ, Act.put, List.setIfInBounds_toArray, List.set_cons_zero, List.set_cons_succ]
  refine wpAnyH_take (i := 5) (oi := _) (v := ?_) rfl (by kernel_rfl) (by kernel_rfl) (by kernel_rfl) (fun _ _ _ h => h) (Or.inl ⟨by kernel_rfl, ?_⟩) (by assumption) ?_
  rotate_left
  · intro w hSw; (try dsimp only at hSw); go_simp; first | done | with_reducible rfl
  try simp only [List.getElem_toArray, List.getElem_cons_zero, List.getElem_cons_succ, Act.put, List.setIfInBounds_toArray, List.set_cons_zero, List.set_cons_succ]
  refine wpAnyH_take (i := 6) (oi := _) (v := ?_) rfl (by kernel_rfl) (by kernel_rfl) (by kernel_rfl) (fun _ _ _ h => h) (Or.inl ⟨by kernel_rfl, ?_⟩) (by assumption) ?_
  rotate_left
  · intro w hSw; (try dsimp only at hSw); go_simp; first | done | with_reducible rfl
  try simp only [List.getElem_toArray, List.getElem_cons_zero, List.getElem_cons_succ, Act.put, List.setIfInBounds_toArray, List.set_cons_zero, List.set_cons_succ]
  refine wpAnyH_take (i := 7) (oi := _) (v := ?_) rfl (by kernel_rfl) (by kernel_rfl) (by kernel_rfl) (fun _ _ _ h => h) (Or.inl ⟨by kernel_rfl, ?_⟩) (by assumption) ?_
  rotate_left
  · intro w hSw; (try dsimp only at hSw); go_simp; first | done | with_reducible rfl
  try simp only [List.getElem_toArray, List.getElem_cons_zero, List.getElem_cons_succ, Act.put, List.setIfInBounds_toArray, List.set_cons_zero, List.set_cons_succ]
  refine wpAnyH_take (i := 8) (oi := _) (v := ?_) rfl (by kernel_rfl) (by kernel_rfl) (by kernel_rfl) (fun _ _ _ h => h) (Or.inl ⟨by kernel_rfl, ?_⟩) (by assumption) ?_
  rotate_left
  · intro w hSw; (try dsimp only at hSw); go_simp; first | done | with_reducible rfl
  try simp only [List.getElem_toArray, List.getElem_cons_zero, List.getElem_cons_succ, Act.put, List.setIfInBounds_toArray, List.set_cons_zero, List.set_cons_succ]
  refine wpAnyH_take (i := 9) (oi := _) (v := ?_) rfl (by kernel_rfl) (by kernel_rfl) (by kernel_rfl) (fun _ _ _ h => h) (Or.inl ⟨by kernel_rfl, ?_⟩) (by assumption) ?_
  rotate_left
  · intro w hSw; (try dsimp only at hSw); go_simp; first | done | with_reducible rfl
  try simp only [List.getElem_toArray, List.getElem_cons_zero, List.getElem_cons_succ, Act.put, List.setIfInBounds_toArray, List.set_cons_zero, List.set_cons_succ]
  refine wpAnyH_done (by kernel_rfl) ?_ _
  go_wp2_with fail
  exact bodyPost_ret (results_tmp2 Try.results28 _ _ _) rfl ⟨rfl, B⟩

theorem impl_bad (X Y a b : Int) (g n : Nat) (c : Nat → Int) (w : World) (hX : -128 ≤ X ∧ X ≤ 127) (hY : -128 ≤ Y ∧ Y ≤ 127) (hc : ∀ j, -128 ≤ c j ∧ c j ≤ 127) (hm : n ≤ 1048576) (hrow : w.rowIs g 58 (4 * n) (fun j => .int .i8 (c j))) (ha : -128 ≤ a ∧ a ≤ 127) (hbb : -128 ≤ b ∧ b ≤ 127) (hv : ¬ Valid X Y n c) :
    Calls Try.prog 30 #[.agg #[.int .i8 X, .int .i8 Y, .slice (some ⟨g, 0, none⟩) n n], .agg #[.int .i8 a, .int .i8 b]] w fun e w' => e = .returned (.tuple #[.int .i64 0, .int .i64 1]) ∧ Below w.heap.size w w' := by
  go_enter Try.func30, Try.ntmps30
  go_wp2_with fail
  have HQ := (Sq.new w X Y (.slice (some ⟨g, 0, none⟩) n n) 32).alloc (.cells #[.int .i8 a, .int .i8 b] 45)
  have H3 : C2 ((w.alloc (.cells #[.int .i8 X, .int .i8 Y, .slice (some ⟨g, 0, none⟩) n n] 32)).alloc (.cells #[.int .i8 a, .int .i8 b] 45)) (w.heap.size + 1) a b := by
    have := C2.new (w.alloc (.cells #[.int .i8 X, .int .i8 Y, .slice (some ⟨g, 0, none⟩) n n] 32)) a b 45
    rwa [World.size_alloc] at this
  have B := al (al (Below.refl w.heap.size w) (.cells #[.int .i8 X, .int .i8 Y, .slice (some ⟨g, 0, none⟩) n n] 32)) (.cells #[.int .i8 a, .int .i8 b] 45)
  obtain ⟨W0, hW0⟩ : ∃ W0 : World, W0 = ((w.alloc (.cells #[.int .i8 X, .int .i8 Y, .slice (some ⟨g, 0, none⟩) n n] 32)).alloc (.cells #[.int .i8 a, .int .i8 b] 45)) := ⟨_, rfl⟩
  rw [← hW0] at HQ H3 B ⊢
  clear hW0
  obtain ⟨lq, pq, qq, rq⟩ := id HQ
  obtain ⟨l3, p3, q3⟩ := id H3
  refine (implValid_any X Y g n c _ hX hY hc hm (hrow.of_block (B.block _ hrow.lt))).mono ?_
  rintro e w1 ⟨hb, hcase⟩
  replace HQ := HQ.below hb
  replace H3 := H3.below hb
  replace B := nxt B hb
  clear hb lq pq qq rq l3 p3 q3
  obtain ⟨lq, pq, qq, rq⟩ := id HQ
  obtain ⟨l3, p3, q3⟩ := id H3
  rcases hcase with ⟨h, _⟩ | ⟨_, rfl⟩
  case inl => exact absurd h hv
  go_wp2_with fail
  exact bodyPost_ret (results_tmp2 Try.results30 _ _ _) rfl ⟨rfl, B⟩

theorem impl_out (X Y a b : Int) (g n : Nat) (c : Nat → Int) (w : World) (hX : -128 ≤ X ∧ X ≤ 127) (hY : -128 ≤ Y ∧ Y ≤ 127) (hc : ∀ j, -128 ≤ c j ∧ c j ≤ 127) (hm : n ≤ 1048576) (hrow : w.rowIs g 58 (4 * n) (fun j => .int .i8 (c j))) (ha : -128 ≤ a ∧ a ≤ 127) (hbb : -128 ≤ b ∧ b ≤ 127) (hv : Valid X Y n c) (hi : ¬ insd X Y a b) :
    Calls Try.prog 30 #[.agg #[.int .i8 X, .int .i8 Y, .slice (some ⟨g, 0, none⟩) n n], .agg #[.int .i8 a, .int .i8 b]] w fun e w' => e = .returned (.tuple #[.int .i64 0, .int .i64 2]) ∧ Below w.heap.size w w' := by
  go_enter Try.func30, Try.ntmps30
  go_wp2_with fail
  have HQ := (Sq.new w X Y (.slice (some ⟨g, 0, none⟩) n n) 32).alloc (.cells #[.int .i8 a, .int .i8 b] 45)
  have H3 : C2 ((w.alloc (.cells #[.int .i8 X, .int .i8 Y, .slice (some ⟨g, 0, none⟩) n n] 32)).alloc (.cells #[.int .i8 a, .int .i8 b] 45)) (w.heap.size + 1) a b := by
    have := C2.new (w.alloc (.cells #[.int .i8 X, .int .i8 Y, .slice (some ⟨g, 0, none⟩) n n] 32)) a b 45
    rwa [World.size_alloc] at this
  have B := al (al (Below.refl w.heap.size w) (.cells #[.int .i8 X, .int .i8 Y, .slice (some ⟨g, 0, none⟩) n n] 32)) (.cells #[.int .i8 a, .int .i8 b] 45)
  obtain ⟨W0, hW0⟩ : ∃ W0 : World, W0 = ((w.alloc (.cells #[.int .i8 X, .int .i8 Y, .slice (some ⟨g, 0, none⟩) n n] 32)).alloc (.cells #[.int .i8 a, .int .i8 b] 45)) := ⟨_, rfl⟩
  rw [← hW0] at HQ H3 B ⊢
  clear hW0
  obtain ⟨lq, pq, qq, rq⟩ := id HQ
  obtain ⟨l3, p3, q3⟩ := id H3
  refine (implValid_any X Y g n c _ hX hY hc hm (hrow.of_block (B.block _ hrow.lt))).mono ?_
  rintro e w1 ⟨hb, hcase⟩
  replace HQ := HQ.below hb
  replace H3 := H3.below hb
  replace B := nxt B hb
  clear hb lq pq qq rq l3 p3 q3
  obtain ⟨lq, pq, qq, rq⟩ := id HQ
  obtain ⟨l3, p3, q3⟩ := id H3
  rcases hcase with ⟨_, rfl⟩ | ⟨h, _⟩
  case inr => exact absurd hv h
  go_wp2_with fail
  refine (hasCell_no X Y a b _ _ hX hY ha hbb hi).mono ?_
  rintro e w2 ⟨rfl, hb⟩
  replace HQ := HQ.below hb
  replace H3 := H3.below hb
  replace B := nxt B hb
  clear hb lq pq qq rq l3 p3 q3
  obtain ⟨lq, pq, qq, rq⟩ := id HQ
  obtain ⟨l3, p3, q3⟩ := id H3
  go_wp2_with fail
  exact bodyPost_ret (results_tmp2 Try.results30 _ _ _) rfl ⟨rfl, B⟩

theorem impl_in (X Y a b : Int) (g n : Nat) (c : Nat → Int) (ax ay : Nat) (w : World) (hX : -128 ≤ X ∧ X ≤ 127) (hY : -128 ≤ Y ∧ Y ≤ 127) (hc : ∀ j, -128 ≤ c j ∧ c j ≤ 127) (hm : n ≤ 1048576) (hrow : w.rowIs g 58 (4 * n) (fun j => .int .i8 (c j))) (ha : -128 ≤ a ∧ a ≤ 127) (hbb : -128 ≤ b ∧ b ≤ 127) (hv : Valid X Y n c) (ea : a = ax) (eb : b = ay) (hi : insd X Y a b) :
    Calls Try.prog 30 #[.agg #[.int .i8 X, .int .i8 Y, .slice (some ⟨g, 0, none⟩) n n], .agg #[.int .i8 a, .int .i8 b]] w fun e w' => e = .returned (.tuple #[.int .i64 (gridN c n (ay * 12 + ax) - 1), .int .i64 0]) ∧ Below w.heap.size w w' := by
  subst ea eb
  go_enter Try.func30, Try.ntmps30
  go_wp2_with fail
  have HQ := (Sq.new w X Y (.slice (some ⟨g, 0, none⟩) n n) 32).alloc (.cells #[.int .i8 (ax : Int), .int .i8 (ay : Int)] 45)
  have H3 : C2 ((w.alloc (.cells #[.int .i8 X, .int .i8 Y, .slice (some ⟨g, 0, none⟩) n n] 32)).alloc (.cells #[.int .i8 (ax : Int), .int .i8 (ay : Int)] 45)) (w.heap.size + 1) (ax : Int) (ay : Int) := by
    have := C2.new (w.alloc (.cells #[.int .i8 X, .int .i8 Y, .slice (some ⟨g, 0, none⟩) n n] 32)) (ax : Int) (ay : Int) 45
    rwa [World.size_alloc] at this
  have B := al (al (Below.refl w.heap.size w) (.cells #[.int .i8 X, .int .i8 Y, .slice (some ⟨g, 0, none⟩) n n] 32)) (.cells #[.int .i8 (ax : Int), .int .i8 (ay : Int)] 45)
  obtain ⟨W0, hW0⟩ : ∃ W0 : World, W0 = ((w.alloc (.cells #[.int .i8 X, .int .i8 Y, .slice (some ⟨g, 0, none⟩) n n] 32)).alloc (.cells #[.int .i8 (ax : Int), .int .i8 (ay : Int)] 45)) := ⟨_, rfl⟩
  rw [← hW0] at HQ H3 B ⊢
  clear hW0
  obtain ⟨lq, pq, qq, rq⟩ := id HQ
  obtain ⟨l3, p3, q3⟩ := id H3
  refine (implValid_any X Y g n c _ hX hY hc hm (hrow.of_block (B.block _ hrow.lt))).mono ?_
  rintro e w1 ⟨hb, hcase⟩
  replace HQ := HQ.below hb
  replace H3 := H3.below hb
  replace B := nxt B hb
  clear hb lq pq qq rq l3 p3 q3
  obtain ⟨lq, pq, qq, rq⟩ := id HQ
  obtain ⟨l3, p3, q3⟩ := id H3
  rcases hcase with ⟨_, rfl⟩ | ⟨h, _⟩
  case inr => exact absurd hv h
  go_wp2_with fail
  refine (hasCell_yes X Y (ax : Int) (ay : Int) _ _ hX hY ha hbb hi).mono ?_
  rintro e w2 ⟨rfl, hb⟩
  replace HQ := HQ.below hb
  replace H3 := H3.below hb
  replace B := nxt B hb
  clear hb lq pq qq rq l3 p3 q3
  obtain ⟨lq, pq, qq, rq⟩ := id HQ
  obtain ⟨l3, p3, q3⟩ := id H3
  go_wp2_with fail
  refine (gridOf_any X Y g n c _ hc hv (hrow.of_block (B.block _ hrow.lt))).mono ?_
  rintro e w3 ⟨hb, cs, rfl, hsz, hone, hcell⟩
  replace HQ := HQ.below hb
  replace H3 := H3.below hb
  replace B := nxt B hb
  clear hb lq pq qq rq l3 p3 q3
  obtain ⟨lq, pq, qq, rq⟩ := id HQ
  obtain ⟨l3, p3, q3⟩ := id H3
  have hx12 : ax < 12 := by have := hi.2.2.1; have := hv.2.1; omega
  have hy12 : ay < 12 := by have := hi.2.2.2; have := hv.2.2.2.1; omega
  have hbd := gridN_bd c n (ay * 12 + ax)
  have hn60 := hv.2.2.2.2.1
  have hG : (w3.alloc (.cells Try.zeroCells82 82)).heap[w3.heap.size]? = some (.cells Try.zeroCells82 82 (0, 0)) := heap_alloc_new w3 _
  have B4 := below_setRow (al B (.cells Try.zeroCells82 82)) B.size cs
  have H4 : C2 ((w3.alloc (.cells Try.zeroCells82 82)).setRow w3.heap.size cs) (w.heap.size + 1) (ax : Int) (ay : Int) := (H3.alloc _).of_block (by rw [setRow_size]; exact Nat.le_refl _) (setRow_other _ _ _ _ (by omega))
  have R4 : ((w3.alloc (.cells Try.zeroCells82 82)).setRow w3.heap.size cs).rowIs w3.heap.size 82 144 (fun p => .int .i8 (gridN c n p)) := ⟨cs, setRow_heap _ _ _ _ _ _ hG, hsz, hcell⟩
  obtain ⟨W4, hW4⟩ : ∃ W4 : World, W4 = ((w3.alloc (.cells Try.zeroCells82 82)).setRow w3.heap.size cs) := ⟨_, rfl⟩
  go_wp2_with (first
    | (refine wpList_store_row rfl 82 (.tmp 6) (.tmp 15) rfl w3.heap.size cs rfl rfl 82 Try.zeroCells82 (heap_alloc_new w3 _) (by rw [infoGrid, hsz]) (by rw [zi_size, hsz]) hone ?_
       rw [← hW4] at B4 H4 R4 ⊢
       clear hW4 hG HQ H3 B lq pq qq rq l3 p3 q3
       obtain ⟨l3, p3, q3⟩ := id H4)
    | (go_at_call 73
       refine (at_in w3.heap.size ax ay (fun p => gridN c n p) _ hx12 hy12 R4).mono ?_
       rintro e w5 ⟨rfl, hb⟩
       replace B4 := nxt B4 hb
       clear hb))
  exact bodyPost_ret (results_tmp2 Try.results30 _ _ _) rfl ⟨rfl, B4⟩

theorem both (X Y : Int) (n : Nat) (c : Nat → Int) (a b : Int) (hX : -128 ≤ X ∧ X ≤ 127) (hY : -128 ≤ Y ∧ Y ≤ 127) (hc : ∀ j, -128 ≤ c j ∧ c j ≤ 127) (ha : -128 ≤ a ∧ a ≤ 127) (hbb : -128 ≤ b ∧ b ≤ 127) (hm : n ≤ 1048576) :
    ∃ r0 r1 : Int, (∀ (W : World) (g : Nat), W.rowIs g 58 (4 * n) (fun j => .int .i8 (c j)) → Calls Try.prog 28 #[.agg #[.int .i8 X, .int .i8 Y, .slice (some ⟨g, 0, none⟩) n n], .agg #[.int .i8 a, .int .i8 b]] W fun e w' => e = .returned (.tuple #[.int .i64 r0, .int .i64 r1]) ∧ Below W.heap.size W w') ∧
      (∀ (W : World) (g : Nat), W.rowIs g 58 (4 * n) (fun j => .int .i8 (c j)) → Calls Try.prog 30 #[.agg #[.int .i8 X, .int .i8 Y, .slice (some ⟨g, 0, none⟩) n n], .agg #[.int .i8 a, .int .i8 b]] W fun e w' => e = .returned (.tuple #[.int .i64 r0, .int .i64 r1]) ∧ Below W.heap.size W w') := by
  by_cases hv : Valid X Y n c
  · by_cases hi : insd X Y a b
    · obtain ⟨ax, ea⟩ := Int.eq_ofNat_of_zero_le hi.1
      obtain ⟨ay, eb⟩ := Int.eq_ofNat_of_zero_le hi.2.1
      exact ⟨_, _, fun W g R => spec_in X Y a b g n c ax ay W hX hY hc hm R ha hbb hv ea eb hi, fun W g R => impl_in X Y a b g n c ax ay W hX hY hc hm R ha hbb hv ea eb hi⟩
    · exact ⟨_, _, fun W g R => spec_out X Y a b g n c W hX hY hc hm R ha hbb hv hi, fun W g R => impl_out X Y a b g n c W hX hY hc hm R ha hbb hv hi⟩
  · exact ⟨_, _, fun W g R => spec_bad X Y a b g n c W hX hY hc hm R ha hbb hv, fun W g R => impl_bad X Y a b g n c W hX hY hc hm R ha hbb hv⟩
end Go.Proofs.Ytmbmdplafjminaa.slabAt
