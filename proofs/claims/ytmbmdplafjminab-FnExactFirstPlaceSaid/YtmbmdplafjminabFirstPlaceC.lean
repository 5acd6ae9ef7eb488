/-
  Both sides of FirstPlace answer the same. Conditions stand at each.
-/
import Derived.Test.YtmbmdplafjminabRows
import Derived.Test.YtmbmdplafjminabPlace
import Derived.Test.YtmbmdplafjminabPlaceI
import Derived.Test.YtmbmdplafjminabTold
namespace Go.Proofs.Ytmbmdplafjminab.firstPlace
open Go Go.ChangeShapes Go.WideShapes Go.ChangeAt Go.RowKit
set_option linter.unusedVariables false
set_option linter.unusedSimpArgs false
set_option maxRecDepth 100000
set_option maxHeartbeats 2000000

theorem set2 {W : World} {b : Nat} {t : TypeId} {a0 a1 : Value} (v0 v1 : Value) (h : W.heap[b]? = some (.cells #[a0, a1] t (0, 0))) :
    ((W.setCell ⟨b, 0, none⟩ v0).setCell ⟨b, 1, none⟩ v1).heap[b]? = some (.cells #[v0, v1] t (0, 0)) :=
  heap_setCell_same _ b 1 _ _ v1 (heap_setCell_same W b 0 _ _ v0 h)

def FirstPost (W H n : Nat) (c : Nat → Int) (wd ht : Nat) (w : World) (e : Ending) (w' : World) : Prop :=
  Below w.heap.size w w' ∧ ((∃ k, k < W * H ∧ fits W H n c wd ht (cl W k) ∧ (∀ j, j < k → ¬ fits W H n c wd ht (cl W j)) ∧ e = .returned (.tuple #[.agg #[.int .i8 ((cl W k).1 : Int), .int .i8 ((cl W k).2 : Int)], .int .i64 0])) ∨
    ((∀ j, j < W * H → ¬ fits W H n c wd ht (cl W j)) ∧ e = .returned (.tuple #[.agg #[.int .i8 0, .int .i8 0], .int .i64 6])))

theorem specA (X Y : Int) (g n : Nat) (c : Nat → Int) (k0 k1 : Int) (w : World) (hX : -128 ≤ X ∧ X ≤ 127) (hY : -128 ≤ Y ∧ Y ≤ 127) (hc : ∀ j, -128 ≤ c j ∧ c j ≤ 127) (hm : n ≤ 1048576) (hrow : w.rowIs g 42 (4 * n) (fun j => .int .i8 (c j))) (hk : ¬ (1 ≤ k0 ∧ k0 ≤ 12)) (code : Int) (hcd : (code != 0) = true)
    (hT : ∀ (W : World) (bq : Nat), Sq W bq X Y (.slice (some ⟨g, 0, none⟩) n n) → W.rowIs g 42 (4 * n) (fun j => .int .i8 (c j)) → Calls Try.prog 70 #[.pointer (some ⟨bq, 0, none⟩), .bool false] W fun e w' => e = .returned (.int .i64 code) ∧ Below W.heap.size W w') :
    Calls Try.prog 16 #[.agg #[.int .i8 X, .int .i8 Y, .slice (some ⟨g, 0, none⟩) n n], .int .i64 k0, .int .i64 k1] w fun e w' => e = .returned (.tuple #[.agg #[.int .i8 0, .int .i8 0], .int .i64 code]) ∧ Below w.heap.size w w' := by
  have HT := Lib.hid hT
  clear hT
  go_enter Try.func16, Try.ntmps16
  go_wp2_with fail
  have HQ := (Sq.new w X Y (.slice (some ⟨g, 0, none⟩) n n) 33).alloc (.cells #[.int .i8 0, .int .i8 0] 28)
  have B := al (al (Below.refl w.heap.size w) (.cells #[.int .i8 X, .int .i8 Y, .slice (some ⟨g, 0, none⟩) n n] 33)) (.cells #[.int .i8 0, .int .i8 0] 28)
  have H6 : ((w.alloc (.cells #[.int .i8 X, .int .i8 Y, .slice (some ⟨g, 0, none⟩) n n] 33)).alloc (.cells #[.int .i8 0, .int .i8 0] 28)).heap[w.heap.size + 1]? = some (.cells #[.int .i8 0, .int .i8 0] 28 (0, 0)) := by
    have := heap_alloc_new (w.alloc (.cells #[.int .i8 X, .int .i8 Y, .slice (some ⟨g, 0, none⟩) n n] 33)) (.cells #[.int .i8 0, .int .i8 0] 28)
    simpa using this
  obtain ⟨W0, hW0⟩ : ∃ W0 : World, W0 = ((w.alloc (.cells #[.int .i8 X, .int .i8 Y, .slice (some ⟨g, 0, none⟩) n n] 33)).alloc (.cells #[.int .i8 0, .int .i8 0] 28)) := ⟨_, rfl⟩
  rw [← hW0] at HQ B H6 ⊢
  have hs0 : w.heap.size + 1 < W0.heap.size := by rw [hW0]; simp
  clear hW0
  have HH6 := Lib.hid H6
  clear H6
  refine (edge_no k0 _ hk).mono ?_
  rintro e w1 ⟨rfl, rfl⟩
  go_wp2_with fail
  refine (HT.out _ _ HQ (hrow.of_block (B.block _ hrow.lt))).mono ?_
  rintro e w2 ⟨rfl, hb⟩
  have H6 := (hb.block _ hs0).trans HH6.out
  replace HH6 := Lib.hid H6
  replace hs0 := Nat.lt_of_lt_of_le hs0 hb.size
  replace HQ := HQ.below hb
  replace B := nxt B hb
  clear H6 hb
  have e0 := cell_of_row w2 (w.heap.size + 1) 0 _ _ _ HH6.out
  have f0 := frozen_of_row w2 (w.heap.size + 1) 0 _ _ HH6.out
  have e1 := cell_of_row w2 (w.heap.size + 1) 1 _ _ _ HH6.out
  have f1 := frozen_of_row w2 (w.heap.size + 1) 1 _ _ HH6.out
  simp at e0 e1
  go_wp2_with fail
  refine bodyPost_ret (v := .tuple #[.agg #[.int .i8 0, .int .i8 0], .int .i64 code]) (by simp [results, Try.results16, go_sem, e0, e1]) rfl ⟨rfl, ?_⟩
  exact (B.setCell (p := ⟨w.heap.size + 1, 0, none⟩) (by simp) _).setCell (p := ⟨w.heap.size + 1, 1, none⟩) (by simp) _

theorem specB (X Y : Int) (g n : Nat) (c : Nat → Int) (k0 k1 : Int) (w : World) (hX : -128 ≤ X ∧ X ≤ 127) (hY : -128 ≤ Y ∧ Y ≤ 127) (hc : ∀ j, -128 ≤ c j ∧ c j ≤ 127) (hm : n ≤ 1048576) (hrow : w.rowIs g 42 (4 * n) (fun j => .int .i8 (c j))) (hk0 : 1 ≤ k0 ∧ k0 ≤ 12) (hk : ¬ (1 ≤ k1 ∧ k1 ≤ 12)) (code : Int) (hcd : (code != 0) = true)
    (hT : ∀ (W : World) (bq : Nat), Sq W bq X Y (.slice (some ⟨g, 0, none⟩) n n) → W.rowIs g 42 (4 * n) (fun j => .int .i8 (c j)) → Calls Try.prog 70 #[.pointer (some ⟨bq, 0, none⟩), .bool false] W fun e w' => e = .returned (.int .i64 code) ∧ Below W.heap.size W w') :
    Calls Try.prog 16 #[.agg #[.int .i8 X, .int .i8 Y, .slice (some ⟨g, 0, none⟩) n n], .int .i64 k0, .int .i64 k1] w fun e w' => e = .returned (.tuple #[.agg #[.int .i8 0, .int .i8 0], .int .i64 code]) ∧ Below w.heap.size w w' := by
  have HT := Lib.hid hT
  clear hT
  go_enter Try.func16, Try.ntmps16
  go_wp2_with fail
  have HQ := (Sq.new w X Y (.slice (some ⟨g, 0, none⟩) n n) 33).alloc (.cells #[.int .i8 0, .int .i8 0] 28)
  have B := al (al (Below.refl w.heap.size w) (.cells #[.int .i8 X, .int .i8 Y, .slice (some ⟨g, 0, none⟩) n n] 33)) (.cells #[.int .i8 0, .int .i8 0] 28)
  have H6 : ((w.alloc (.cells #[.int .i8 X, .int .i8 Y, .slice (some ⟨g, 0, none⟩) n n] 33)).alloc (.cells #[.int .i8 0, .int .i8 0] 28)).heap[w.heap.size + 1]? = some (.cells #[.int .i8 0, .int .i8 0] 28 (0, 0)) := by
    have := heap_alloc_new (w.alloc (.cells #[.int .i8 X, .int .i8 Y, .slice (some ⟨g, 0, none⟩) n n] 33)) (.cells #[.int .i8 0, .int .i8 0] 28)
    simpa using this
  obtain ⟨W0, hW0⟩ : ∃ W0 : World, W0 = ((w.alloc (.cells #[.int .i8 X, .int .i8 Y, .slice (some ⟨g, 0, none⟩) n n] 33)).alloc (.cells #[.int .i8 0, .int .i8 0] 28)) := ⟨_, rfl⟩
  rw [← hW0] at HQ B H6 ⊢
  have hs0 : w.heap.size + 1 < W0.heap.size := by rw [hW0]; simp
  clear hW0
  have HH6 := Lib.hid H6
  clear H6
  refine (edge_yes k0 _ hk0.1 hk0.2).mono ?_
  rintro e w1 ⟨rfl, rfl⟩
  go_wp2_with fail
  refine (edge_no k1 _ hk).mono ?_
  rintro e w1 ⟨rfl, rfl⟩
  go_wp2_with fail
  refine (HT.out _ _ HQ (hrow.of_block (B.block _ hrow.lt))).mono ?_
  rintro e w2 ⟨rfl, hb⟩
  have H6 := (hb.block _ hs0).trans HH6.out
  replace HH6 := Lib.hid H6
  replace hs0 := Nat.lt_of_lt_of_le hs0 hb.size
  replace HQ := HQ.below hb
  replace B := nxt B hb
  clear H6 hb
  have e0 := cell_of_row w2 (w.heap.size + 1) 0 _ _ _ HH6.out
  have f0 := frozen_of_row w2 (w.heap.size + 1) 0 _ _ HH6.out
  have e1 := cell_of_row w2 (w.heap.size + 1) 1 _ _ _ HH6.out
  have f1 := frozen_of_row w2 (w.heap.size + 1) 1 _ _ HH6.out
  simp at e0 e1
  go_wp2_with fail
  refine bodyPost_ret (v := .tuple #[.agg #[.int .i8 0, .int .i8 0], .int .i64 code]) (by simp [results, Try.results16, go_sem, e0, e1]) rfl ⟨rfl, ?_⟩
  exact (B.setCell (p := ⟨w.heap.size + 1, 0, none⟩) (by simp) _).setCell (p := ⟨w.heap.size + 1, 1, none⟩) (by simp) _

theorem specC (X Y : Int) (g n : Nat) (c : Nat → Int) (k0 k1 : Int) (w : World) (hX : -128 ≤ X ∧ X ≤ 127) (hY : -128 ≤ Y ∧ Y ≤ 127) (hc : ∀ j, -128 ≤ c j ∧ c j ≤ 127) (hm : n ≤ 1048576) (hrow : w.rowIs g 42 (4 * n) (fun j => .int .i8 (c j))) (hk0 : 1 ≤ k0 ∧ k0 ≤ 12) (hk : 1 ≤ k1 ∧ k1 ≤ 12) (code : Int) (hcd : (code != 0) = true)
    (hT : ∀ (W : World) (bq : Nat), Sq W bq X Y (.slice (some ⟨g, 0, none⟩) n n) → W.rowIs g 42 (4 * n) (fun j => .int .i8 (c j)) → Calls Try.prog 70 #[.pointer (some ⟨bq, 0, none⟩), .bool true] W fun e w' => e = .returned (.int .i64 code) ∧ Below W.heap.size W w') :
    Calls Try.prog 16 #[.agg #[.int .i8 X, .int .i8 Y, .slice (some ⟨g, 0, none⟩) n n], .int .i64 k0, .int .i64 k1] w fun e w' => e = .returned (.tuple #[.agg #[.int .i8 0, .int .i8 0], .int .i64 code]) ∧ Below w.heap.size w w' := by
  have HT := Lib.hid hT
  clear hT
  go_enter Try.func16, Try.ntmps16
  go_wp2_with fail
  have HQ := (Sq.new w X Y (.slice (some ⟨g, 0, none⟩) n n) 33).alloc (.cells #[.int .i8 0, .int .i8 0] 28)
  have B := al (al (Below.refl w.heap.size w) (.cells #[.int .i8 X, .int .i8 Y, .slice (some ⟨g, 0, none⟩) n n] 33)) (.cells #[.int .i8 0, .int .i8 0] 28)
  have H6 : ((w.alloc (.cells #[.int .i8 X, .int .i8 Y, .slice (some ⟨g, 0, none⟩) n n] 33)).alloc (.cells #[.int .i8 0, .int .i8 0] 28)).heap[w.heap.size + 1]? = some (.cells #[.int .i8 0, .int .i8 0] 28 (0, 0)) := by
    have := heap_alloc_new (w.alloc (.cells #[.int .i8 X, .int .i8 Y, .slice (some ⟨g, 0, none⟩) n n] 33)) (.cells #[.int .i8 0, .int .i8 0] 28)
    simpa using this
  obtain ⟨W0, hW0⟩ : ∃ W0 : World, W0 = ((w.alloc (.cells #[.int .i8 X, .int .i8 Y, .slice (some ⟨g, 0, none⟩) n n] 33)).alloc (.cells #[.int .i8 0, .int .i8 0] 28)) := ⟨_, rfl⟩
  rw [← hW0] at HQ B H6 ⊢
  have hs0 : w.heap.size + 1 < W0.heap.size := by rw [hW0]; simp
  clear hW0
  have HH6 := Lib.hid H6
  clear H6
  refine (edge_yes k0 _ hk0.1 hk0.2).mono ?_
  rintro e w1 ⟨rfl, rfl⟩
  go_wp2_with fail
  refine (edge_yes k1 _ hk.1 hk.2).mono ?_
  rintro e w1 ⟨rfl, rfl⟩
  go_wp2_with fail
  refine (HT.out _ _ HQ (hrow.of_block (B.block _ hrow.lt))).mono ?_
  rintro e w2 ⟨rfl, hb⟩
  have H6 := (hb.block _ hs0).trans HH6.out
  replace HH6 := Lib.hid H6
  replace hs0 := Nat.lt_of_lt_of_le hs0 hb.size
  replace HQ := HQ.below hb
  replace B := nxt B hb
  clear H6 hb
  have e0 := cell_of_row w2 (w.heap.size + 1) 0 _ _ _ HH6.out
  have f0 := frozen_of_row w2 (w.heap.size + 1) 0 _ _ HH6.out
  have e1 := cell_of_row w2 (w.heap.size + 1) 1 _ _ _ HH6.out
  have f1 := frozen_of_row w2 (w.heap.size + 1) 1 _ _ HH6.out
  simp at e0 e1
  go_wp2_with fail
  refine bodyPost_ret (v := .tuple #[.agg #[.int .i8 0, .int .i8 0], .int .i64 code]) (by simp [results, Try.results16, go_sem, e0, e1]) rfl ⟨rfl, ?_⟩
  exact (B.setCell (p := ⟨w.heap.size + 1, 0, none⟩) (by simp) _).setCell (p := ⟨w.heap.size + 1, 1, none⟩) (by simp) _

theorem specIn (W H g n wd ht : Nat) (c : Nat → Int) (w : World) (hwd : 1 ≤ wd ∧ wd ≤ 12) (hht : 1 ≤ ht ∧ ht ≤ 12) (hc : ∀ j, -128 ≤ c j ∧ c j ≤ 127) (hm : n ≤ 1048576) (hrow : w.rowIs g 42 (4 * n) (fun j => .int .i8 (c j))) (hv : Valid W H n c) :
    Calls Try.prog 16 #[.agg #[.int .i8 (W : Int), .int .i8 (H : Int), .slice (some ⟨g, 0, none⟩) n n], .int .i64 (wd : Int), .int .i64 (ht : Int)] w (FirstPost W H n c wd ht w) := by
  have HC := Lib.hid hc
  clear hc
  have hW : W ≤ 12 := by have := hv.2.1; omega
  have hH : H ≤ 12 := by have := hv.2.2.2.1; omega
  go_enter Try.func16, Try.ntmps16
  go_wp2_with fail
  have HQ := (Sq.new w (W : Int) (H : Int) (.slice (some ⟨g, 0, none⟩) n n) 33).alloc (.cells #[.int .i8 0, .int .i8 0] 28)
  have B := al (al (Below.refl w.heap.size w) (.cells #[.int .i8 (W : Int), .int .i8 (H : Int), .slice (some ⟨g, 0, none⟩) n n] 33)) (.cells #[.int .i8 0, .int .i8 0] 28)
  have H6 : ((w.alloc (.cells #[.int .i8 (W : Int), .int .i8 (H : Int), .slice (some ⟨g, 0, none⟩) n n] 33)).alloc (.cells #[.int .i8 0, .int .i8 0] 28)).heap[w.heap.size + 1]? = some (.cells #[.int .i8 0, .int .i8 0] 28 (0, 0)) := by
    have := heap_alloc_new (w.alloc (.cells #[.int .i8 (W : Int), .int .i8 (H : Int), .slice (some ⟨g, 0, none⟩) n n] 33)) (.cells #[.int .i8 0, .int .i8 0] 28)
    simpa using this
  obtain ⟨W0, hW0⟩ : ∃ W0 : World, W0 = ((w.alloc (.cells #[.int .i8 (W : Int), .int .i8 (H : Int), .slice (some ⟨g, 0, none⟩) n n] 33)).alloc (.cells #[.int .i8 0, .int .i8 0] 28)) := ⟨_, rfl⟩
  rw [← hW0] at HQ B H6 ⊢
  have hs0 : w.heap.size + 1 < W0.heap.size := by rw [hW0]; simp
  clear hW0
  have HH6 := Lib.hid H6
  clear H6
  refine (edge_yes (wd : Int) _ (by omega) (by omega)).mono ?_
  rintro e w1 ⟨rfl, rfl⟩
  go_wp2_with fail
  refine (edge_yes (ht : Int) _ (by omega) (by omega)).mono ?_
  rintro e w1 ⟨rfl, rfl⟩
  go_wp2_with fail
  refine (told_ok W H _ g n c true _ (by omega) (by omega) HC.out hm HQ (hrow.of_block (B.block _ hrow.lt)) hv).mono ?_
  rintro e w2 ⟨he, hb⟩
  replace he : e = .returned (.int .i64 0) := he
  subst he
  have H6 := (hb.block _ hs0).trans HH6.out
  replace HH6 := Lib.hid H6
  replace hs0 := Nat.lt_of_lt_of_le hs0 hb.size
  replace HQ := HQ.below hb
  replace B := nxt B hb
  clear H6 hb
  go_wp2_with fail
  refine (place_any W H _ g n wd ht c _ hwd hht HC.out hm HQ (hrow.of_block (B.block _ hrow.lt)) hv).mono ?_
  rintro e w3 ⟨hb, v, rfl, hres⟩
  have H6 := (hb.block _ hs0).trans HH6.out
  replace HH6 := Lib.hid H6
  replace hs0 := Nat.lt_of_lt_of_le hs0 hb.size
  replace HQ := HQ.below hb
  replace B := nxt B hb
  clear H6 hb
  rcases hres with ⟨k, hk, hf, hno, rfl⟩ | ⟨hno, rfl⟩
  · obtain ⟨x, y, hxy⟩ : ∃ x y, cl W k = (x, y) := ⟨_, _, rfl⟩
    rw [hxy]
    have HK := Lib.hid (And.intro hk (And.intro hf (And.intro hno hxy)))
    clear hk hf hno hxy
    have e0 := cell_of_row w3 (w.heap.size + 1) 0 _ _ _ HH6.out
    have f0 := frozen_of_row w3 (w.heap.size + 1) 0 _ _ HH6.out
    have e1 := cell_of_row w3 (w.heap.size + 1) 1 _ _ _ HH6.out
    have f1 := frozen_of_row w3 (w.heap.size + 1) 1 _ _ HH6.out
    simp at e0 e1
    go_wp2
    refine bodyPost_ret (v := .tuple #[.agg #[.int .i8 (x : Int), .int .i8 (y : Int)], .int .i64 0]) (by simp [results, Try.results16, go_sem, e0, e1, hs0]) rfl ⟨?_, .inl ⟨k, HK.out.1, HK.out.2.1, HK.out.2.2.1, by rw [HK.out.2.2.2]⟩⟩
    exact ((B.setCell (p := ⟨w.heap.size + 1, 0, none⟩) (by simp) _).setCell (p := ⟨w.heap.size + 1, 1, none⟩) (by simp) _).alloc (by simp; have := B.size; omega) _
  · have HN := Lib.hid hno
    clear hno
    have e0 := cell_of_row w3 (w.heap.size + 1) 0 _ _ _ HH6.out
    have f0 := frozen_of_row w3 (w.heap.size + 1) 0 _ _ HH6.out
    have e1 := cell_of_row w3 (w.heap.size + 1) 1 _ _ _ HH6.out
    have f1 := frozen_of_row w3 (w.heap.size + 1) 1 _ _ HH6.out
    simp at e0 e1
    go_wp2
    refine bodyPost_ret (v := .tuple #[.agg #[.int .i8 0, .int .i8 0], .int .i64 6]) (by simp [results, Try.results16, go_sem, e0, e1, hs0]) rfl ⟨?_, .inr ⟨HN.out, rfl⟩⟩
    exact ((B.setCell (p := ⟨w.heap.size + 1, 0, none⟩) (by simp) _).setCell (p := ⟨w.heap.size + 1, 1, none⟩) (by simp) _).alloc (by simp; have := B.size; omega) _

theorem implA (X Y : Int) (g n : Nat) (c : Nat → Int) (k0 k1 : Int) (w : World) (hX : -128 ≤ X ∧ X ≤ 127) (hY : -128 ≤ Y ∧ Y ≤ 127) (hc : ∀ j, -128 ≤ c j ∧ c j ≤ 127) (hm : n ≤ 1048576) (hrow : w.rowIs g 42 (4 * n) (fun j => .int .i8 (c j))) (hv : ¬ Valid X Y n c) :
    Calls Try.prog 18 #[.agg #[.int .i8 X, .int .i8 Y, .slice (some ⟨g, 0, none⟩) n n], .int .i64 k0, .int .i64 k1] w fun e w' => e = .returned (.tuple #[.agg #[.int .i8 0, .int .i8 0], .int .i64 1]) ∧ Below w.heap.size w w' := by
  go_enter Try.func18, Try.ntmps18
  go_wp2_with fail
  have HQ := (Sq.new w X Y (.slice (some ⟨g, 0, none⟩) n n) 33).alloc (.cells #[.int .i8 0, .int .i8 0] 28)
  have B := al (al (Below.refl w.heap.size w) (.cells #[.int .i8 X, .int .i8 Y, .slice (some ⟨g, 0, none⟩) n n] 33)) (.cells #[.int .i8 0, .int .i8 0] 28)
  have H6 : ((w.alloc (.cells #[.int .i8 X, .int .i8 Y, .slice (some ⟨g, 0, none⟩) n n] 33)).alloc (.cells #[.int .i8 0, .int .i8 0] 28)).heap[w.heap.size + 1]? = some (.cells #[.int .i8 0, .int .i8 0] 28 (0, 0)) := by
    have := heap_alloc_new (w.alloc (.cells #[.int .i8 X, .int .i8 Y, .slice (some ⟨g, 0, none⟩) n n] 33)) (.cells #[.int .i8 0, .int .i8 0] 28)
    simpa using this
  obtain ⟨W0, hW0⟩ : ∃ W0 : World, W0 = ((w.alloc (.cells #[.int .i8 X, .int .i8 Y, .slice (some ⟨g, 0, none⟩) n n] 33)).alloc (.cells #[.int .i8 0, .int .i8 0] 28)) := ⟨_, rfl⟩
  rw [← hW0] at HQ B H6 ⊢
  have hs0 : w.heap.size + 1 < W0.heap.size := by rw [hW0]; simp
  clear hW0
  have HH6 := Lib.hid H6
  clear H6
  refine (implValid_any X Y g n c _ hX hY hc hm (hrow.of_block (B.block _ hrow.lt))).mono ?_
  rintro e w2 ⟨hb, ⟨h, he⟩ | ⟨h, he⟩⟩
  case inl => exact absurd h hv
  subst he
  clear h
  have H6 := (hb.block _ hs0).trans HH6.out
  replace HH6 := Lib.hid H6
  replace hs0 := Nat.lt_of_lt_of_le hs0 hb.size
  replace HQ := HQ.below hb
  replace B := nxt B hb
  clear H6 hb

  have e0 := cell_of_row w2 (w.heap.size + 1) 0 _ _ _ HH6.out
  have f0 := frozen_of_row w2 (w.heap.size + 1) 0 _ _ HH6.out
  have e1 := cell_of_row w2 (w.heap.size + 1) 1 _ _ _ HH6.out
  have f1 := frozen_of_row w2 (w.heap.size + 1) 1 _ _ HH6.out
  simp at e0 e1
  go_wp2_with fail
  refine bodyPost_ret (v := .tuple #[.agg #[.int .i8 0, .int .i8 0], .int .i64 1]) (by simp [results, Try.results18, go_sem, e0, e1]) rfl ⟨rfl, ?_⟩
  exact (B.setCell (p := ⟨w.heap.size + 1, 0, none⟩) (by simp) _).setCell (p := ⟨w.heap.size + 1, 1, none⟩) (by simp) _

theorem implB (X Y : Int) (g n : Nat) (c : Nat → Int) (k0 k1 : Int) (w : World) (hX : -128 ≤ X ∧ X ≤ 127) (hY : -128 ≤ Y ∧ Y ≤ 127) (hc : ∀ j, -128 ≤ c j ∧ c j ≤ 127) (hm : n ≤ 1048576) (hrow : w.rowIs g 42 (4 * n) (fun j => .int .i8 (c j))) (hv : Valid X Y n c) (hk : ¬ (1 ≤ k0 ∧ k0 ≤ 12)) :
    Calls Try.prog 18 #[.agg #[.int .i8 X, .int .i8 Y, .slice (some ⟨g, 0, none⟩) n n], .int .i64 k0, .int .i64 k1] w fun e w' => e = .returned (.tuple #[.agg #[.int .i8 0, .int .i8 0], .int .i64 2]) ∧ Below w.heap.size w w' := by
  go_enter Try.func18, Try.ntmps18
  go_wp2_with fail
  have HQ := (Sq.new w X Y (.slice (some ⟨g, 0, none⟩) n n) 33).alloc (.cells #[.int .i8 0, .int .i8 0] 28)
  have B := al (al (Below.refl w.heap.size w) (.cells #[.int .i8 X, .int .i8 Y, .slice (some ⟨g, 0, none⟩) n n] 33)) (.cells #[.int .i8 0, .int .i8 0] 28)
  have H6 : ((w.alloc (.cells #[.int .i8 X, .int .i8 Y, .slice (some ⟨g, 0, none⟩) n n] 33)).alloc (.cells #[.int .i8 0, .int .i8 0] 28)).heap[w.heap.size + 1]? = some (.cells #[.int .i8 0, .int .i8 0] 28 (0, 0)) := by
    have := heap_alloc_new (w.alloc (.cells #[.int .i8 X, .int .i8 Y, .slice (some ⟨g, 0, none⟩) n n] 33)) (.cells #[.int .i8 0, .int .i8 0] 28)
    simpa using this
  obtain ⟨W0, hW0⟩ : ∃ W0 : World, W0 = ((w.alloc (.cells #[.int .i8 X, .int .i8 Y, .slice (some ⟨g, 0, none⟩) n n] 33)).alloc (.cells #[.int .i8 0, .int .i8 0] 28)) := ⟨_, rfl⟩
  rw [← hW0] at HQ B H6 ⊢
  have hs0 : w.heap.size + 1 < W0.heap.size := by rw [hW0]; simp
  clear hW0
  have HH6 := Lib.hid H6
  clear H6
  refine (implValid_any X Y g n c _ hX hY hc hm (hrow.of_block (B.block _ hrow.lt))).mono ?_
  rintro e w2 ⟨hb, ⟨h, he⟩ | ⟨h, he⟩⟩
  case inr => exact absurd hv h
  subst he
  clear h
  have H6 := (hb.block _ hs0).trans HH6.out
  replace HH6 := Lib.hid H6
  replace hs0 := Nat.lt_of_lt_of_le hs0 hb.size
  replace HQ := HQ.below hb
  replace B := nxt B hb
  clear H6 hb

  go_wp2_with fail
  refine (side_no k0 _ hk).mono ?_
  rintro e w3 ⟨rfl, rfl⟩
  have e0 := cell_of_row w2 (w.heap.size + 1) 0 _ _ _ HH6.out
  have f0 := frozen_of_row w2 (w.heap.size + 1) 0 _ _ HH6.out
  have e1 := cell_of_row w2 (w.heap.size + 1) 1 _ _ _ HH6.out
  have f1 := frozen_of_row w2 (w.heap.size + 1) 1 _ _ HH6.out
  simp at e0 e1
  go_wp2_with fail
  refine bodyPost_ret (v := .tuple #[.agg #[.int .i8 0, .int .i8 0], .int .i64 2]) (by simp [results, Try.results18, go_sem, e0, e1]) rfl ⟨rfl, ?_⟩
  exact (B.setCell (p := ⟨w.heap.size + 1, 0, none⟩) (by simp) _).setCell (p := ⟨w.heap.size + 1, 1, none⟩) (by simp) _

theorem implC (X Y : Int) (g n : Nat) (c : Nat → Int) (k0 k1 : Int) (w : World) (hX : -128 ≤ X ∧ X ≤ 127) (hY : -128 ≤ Y ∧ Y ≤ 127) (hc : ∀ j, -128 ≤ c j ∧ c j ≤ 127) (hm : n ≤ 1048576) (hrow : w.rowIs g 42 (4 * n) (fun j => .int .i8 (c j))) (hv : Valid X Y n c) (hk0 : 1 ≤ k0 ∧ k0 ≤ 12) (hk : ¬ (1 ≤ k1 ∧ k1 ≤ 12)) :
    Calls Try.prog 18 #[.agg #[.int .i8 X, .int .i8 Y, .slice (some ⟨g, 0, none⟩) n n], .int .i64 k0, .int .i64 k1] w fun e w' => e = .returned (.tuple #[.agg #[.int .i8 0, .int .i8 0], .int .i64 2]) ∧ Below w.heap.size w w' := by
  go_enter Try.func18, Try.ntmps18
  go_wp2_with fail
  have HQ := (Sq.new w X Y (.slice (some ⟨g, 0, none⟩) n n) 33).alloc (.cells #[.int .i8 0, .int .i8 0] 28)
  have B := al (al (Below.refl w.heap.size w) (.cells #[.int .i8 X, .int .i8 Y, .slice (some ⟨g, 0, none⟩) n n] 33)) (.cells #[.int .i8 0, .int .i8 0] 28)
  have H6 : ((w.alloc (.cells #[.int .i8 X, .int .i8 Y, .slice (some ⟨g, 0, none⟩) n n] 33)).alloc (.cells #[.int .i8 0, .int .i8 0] 28)).heap[w.heap.size + 1]? = some (.cells #[.int .i8 0, .int .i8 0] 28 (0, 0)) := by
    have := heap_alloc_new (w.alloc (.cells #[.int .i8 X, .int .i8 Y, .slice (some ⟨g, 0, none⟩) n n] 33)) (.cells #[.int .i8 0, .int .i8 0] 28)
    simpa using this
  obtain ⟨W0, hW0⟩ : ∃ W0 : World, W0 = ((w.alloc (.cells #[.int .i8 X, .int .i8 Y, .slice (some ⟨g, 0, none⟩) n n] 33)).alloc (.cells #[.int .i8 0, .int .i8 0] 28)) := ⟨_, rfl⟩
  rw [← hW0] at HQ B H6 ⊢
  have hs0 : w.heap.size + 1 < W0.heap.size := by rw [hW0]; simp
  clear hW0
  have HH6 := Lib.hid H6
  clear H6
  refine (implValid_any X Y g n c _ hX hY hc hm (hrow.of_block (B.block _ hrow.lt))).mono ?_
  rintro e w2 ⟨hb, ⟨h, he⟩ | ⟨h, he⟩⟩
  case inr => exact absurd hv h
  subst he
  clear h
  have H6 := (hb.block _ hs0).trans HH6.out
  replace HH6 := Lib.hid H6
  replace hs0 := Nat.lt_of_lt_of_le hs0 hb.size
  replace HQ := HQ.below hb
  replace B := nxt B hb
  clear H6 hb

  go_wp2_with fail
  refine (side_yes k0 _ hk0.1 hk0.2).mono ?_
  rintro e w3 ⟨rfl, rfl⟩
  go_wp2_with fail
  refine (side_no k1 _ hk).mono ?_
  rintro e w3 ⟨rfl, rfl⟩
  have e0 := cell_of_row w2 (w.heap.size + 1) 0 _ _ _ HH6.out
  have f0 := frozen_of_row w2 (w.heap.size + 1) 0 _ _ HH6.out
  have e1 := cell_of_row w2 (w.heap.size + 1) 1 _ _ _ HH6.out
  have f1 := frozen_of_row w2 (w.heap.size + 1) 1 _ _ HH6.out
  simp at e0 e1
  go_wp2_with fail
  refine bodyPost_ret (v := .tuple #[.agg #[.int .i8 0, .int .i8 0], .int .i64 2]) (by simp [results, Try.results18, go_sem, e0, e1]) rfl ⟨rfl, ?_⟩
  exact (B.setCell (p := ⟨w.heap.size + 1, 0, none⟩) (by simp) _).setCell (p := ⟨w.heap.size + 1, 1, none⟩) (by simp) _

theorem implIn (W H g n wd ht : Nat) (c : Nat → Int) (w : World) (hwd : 1 ≤ wd ∧ wd ≤ 12) (hht : 1 ≤ ht ∧ ht ≤ 12) (hc : ∀ j, -128 ≤ c j ∧ c j ≤ 127) (hm : n ≤ 1048576) (hrow : w.rowIs g 42 (4 * n) (fun j => .int .i8 (c j))) (hv : Valid W H n c) :
    Calls Try.prog 18 #[.agg #[.int .i8 (W : Int), .int .i8 (H : Int), .slice (some ⟨g, 0, none⟩) n n], .int .i64 (wd : Int), .int .i64 (ht : Int)] w (FirstPost W H n c wd ht w) := by
  have HC := Lib.hid hc
  clear hc
  have hW : W ≤ 12 := by have := hv.2.1; omega
  have hH : H ≤ 12 := by have := hv.2.2.2.1; omega
  have w1 : IntKind.i8.wrap (wd : Int) = (wd : Int) := IntWalk.i8_in _ (by omega)
  have w2 : IntKind.i8.wrap (ht : Int) = (ht : Int) := IntWalk.i8_in _ (by omega)
  have HW1 := Lib.hid w1
  have HW2 := Lib.hid w2
  clear w1 w2
  go_enter Try.func18, Try.ntmps18
  go_wp2_with fail
  have HQ := (Sq.new w (W : Int) (H : Int) (.slice (some ⟨g, 0, none⟩) n n) 33).alloc (.cells #[.int .i8 0, .int .i8 0] 28)
  have B := al (al (Below.refl w.heap.size w) (.cells #[.int .i8 (W : Int), .int .i8 (H : Int), .slice (some ⟨g, 0, none⟩) n n] 33)) (.cells #[.int .i8 0, .int .i8 0] 28)
  have H6 : ((w.alloc (.cells #[.int .i8 (W : Int), .int .i8 (H : Int), .slice (some ⟨g, 0, none⟩) n n] 33)).alloc (.cells #[.int .i8 0, .int .i8 0] 28)).heap[w.heap.size + 1]? = some (.cells #[.int .i8 0, .int .i8 0] 28 (0, 0)) := by
    have := heap_alloc_new (w.alloc (.cells #[.int .i8 (W : Int), .int .i8 (H : Int), .slice (some ⟨g, 0, none⟩) n n] 33)) (.cells #[.int .i8 0, .int .i8 0] 28)
    simpa using this
  obtain ⟨W0, hW0⟩ : ∃ W0 : World, W0 = ((w.alloc (.cells #[.int .i8 (W : Int), .int .i8 (H : Int), .slice (some ⟨g, 0, none⟩) n n] 33)).alloc (.cells #[.int .i8 0, .int .i8 0] 28)) := ⟨_, rfl⟩
  rw [← hW0] at HQ B H6 ⊢
  have hs0 : w.heap.size + 1 < W0.heap.size := by rw [hW0]; simp
  clear hW0
  have HH6 := Lib.hid H6
  clear H6
  refine (implValid_any W H g n c _ (by omega) (by omega) HC.out hm (hrow.of_block (B.block _ hrow.lt))).mono ?_
  rintro e w2 ⟨hb, ⟨h, rfl⟩ | ⟨h, _⟩⟩
  case inr => exact absurd hv h
  clear h
  have H6 := (hb.block _ hs0).trans HH6.out
  replace HH6 := Lib.hid H6
  replace hs0 := Nat.lt_of_lt_of_le hs0 hb.size
  replace HQ := HQ.below hb
  replace B := nxt B hb
  clear H6 hb
  go_wp2_with fail
  refine (side_yes (wd : Int) _ (by omega) (by omega)).mono ?_
  rintro e w3 ⟨rfl, rfl⟩
  go_wp2_with fail
  refine (side_yes (ht : Int) _ (by omega) (by omega)).mono ?_
  rintro e w3 ⟨rfl, rfl⟩
  obtain ⟨lq, pq, qq, rq⟩ := id HQ
  go_wp2_with fail
  refine (gridOf_any W H g n c _ HC.out hv (hrow.of_block (B.block _ hrow.lt))).mono ?_
  rintro e w4 ⟨hb, cs, rfl, hsz, hone, hcell⟩
  have H6 := (hb.block _ hs0).trans HH6.out
  replace HH6 := Lib.hid H6
  replace hs0 := Nat.lt_of_lt_of_le hs0 hb.size
  replace HQ := HQ.below hb
  replace B := nxt B hb
  clear H6 hb
  clear lq pq qq rq
  have hG : (w4.alloc (.cells Try.zeroCells92 92)).heap[w4.heap.size]? = some (.cells Try.zeroCells92 92 (0, 0)) := heap_alloc_new w4 _
  have B4 := below_setRow (al B (.cells Try.zeroCells92 92)) B.size cs
  have R4 : ((w4.alloc (.cells Try.zeroCells92 92)).setRow w4.heap.size cs).rowIs w4.heap.size 92 144 (fun p => .int .i8 (gridN c n p)) := ⟨cs, setRow_heap _ _ _ _ _ _ hG, hsz, hcell⟩
  have HQ4 : Sq ((w4.alloc (.cells Try.zeroCells92 92)).setRow w4.heap.size cs) w.heap.size (W : Int) (H : Int) (.slice (some ⟨g, 0, none⟩) n n) := (HQ.alloc _).of_block (by rw [setRow_size]; exact Nat.le_refl _) (setRow_other _ _ _ _ (by have := HQ.1; omega))
  have H64 : ((w4.alloc (.cells Try.zeroCells92 92)).setRow w4.heap.size cs).heap[w.heap.size + 1]? = some (.cells #[.int .i8 0, .int .i8 0] 28 (0, 0)) := (setRow_other _ _ _ _ (by omega)).trans ((Below.heap_alloc _ _ _ hs0).trans HH6.out)
  obtain ⟨W4, hW4⟩ : ∃ W4 : World, W4 = ((w4.alloc (.cells Try.zeroCells92 92)).setRow w4.heap.size cs) := ⟨_, rfl⟩
  have hs4 : w.heap.size + 1 < W4.heap.size := by rw [hW4, setRow_size]; simp; omega
  go_wp2_with (first
    | (refine wpList_store_row rfl 92 (.tmp 8) (.tmp 25) rfl w4.heap.size cs rfl rfl 92 Try.zeroCells92 (heap_alloc_new w4 _) (by rw [infoGrid, hsz]) (by rw [zi_size, hsz]) hone ?_
       rw [← hW4] at B4 HQ4 R4 H64 ⊢
       clear hW4 hG HQ HH6 B hcell
       have w1 := HW1.out
       have w2 := HW2.out
       replace H64 := Lib.hid H64
       obtain ⟨lq, pq, qq, rq⟩ := id HQ4))
  refine (callsIn_wide.1 (placeI_in W H w4.heap.size g n wd ht c _ hwd hht hv R4)).mono ?_
  rintro e w3 ⟨hb, v, rfl, hres⟩
  have HH6 := Lib.hid ((hb.block _ hs4).trans H64.out)
  have hs0 := Nat.lt_of_lt_of_le hs4 hb.size
  replace B := nxt B4 hb
  clear hb lq pq qq rq w1 w2 H64
  rcases hres with ⟨k, hk, hf, hno, rfl⟩ | ⟨hno, rfl⟩
  · obtain ⟨x, y, hxy⟩ : ∃ x y, cl W k = (x, y) := ⟨_, _, rfl⟩
    rw [hxy]
    have HK := Lib.hid (And.intro hk (And.intro hf (And.intro hno hxy)))
    clear hk hf hno hxy
    have e0 := cell_of_row w3 (w.heap.size + 1) 0 _ _ _ HH6.out
    have f0 := frozen_of_row w3 (w.heap.size + 1) 0 _ _ HH6.out
    have e1 := cell_of_row w3 (w.heap.size + 1) 1 _ _ _ HH6.out
    have f1 := frozen_of_row w3 (w.heap.size + 1) 1 _ _ HH6.out
    simp at e0 e1
    go_wp2
    refine bodyPost_ret (v := .tuple #[.agg #[.int .i8 (x : Int), .int .i8 (y : Int)], .int .i64 0]) (by simp [results, Try.results18, go_sem, e0, e1, hs0]) rfl ⟨?_, .inl ⟨k, HK.out.1, HK.out.2.1, HK.out.2.2.1, by rw [HK.out.2.2.2]⟩⟩
    exact ((B.setCell (p := ⟨w.heap.size + 1, 0, none⟩) (by simp) _).setCell (p := ⟨w.heap.size + 1, 1, none⟩) (by simp) _).alloc (by simp; have := B.size; omega) _
  · have HN := Lib.hid hno
    clear hno
    have e0 := cell_of_row w3 (w.heap.size + 1) 0 _ _ _ HH6.out
    have f0 := frozen_of_row w3 (w.heap.size + 1) 0 _ _ HH6.out
    have e1 := cell_of_row w3 (w.heap.size + 1) 1 _ _ _ HH6.out
    have f1 := frozen_of_row w3 (w.heap.size + 1) 1 _ _ HH6.out
    simp at e0 e1
    go_wp2
    refine bodyPost_ret (v := .tuple #[.agg #[.int .i8 0, .int .i8 0], .int .i64 6]) (by simp [results, Try.results18, go_sem, e0, e1, hs0]) rfl ⟨?_, .inr ⟨HN.out, rfl⟩⟩
    exact ((B.setCell (p := ⟨w.heap.size + 1, 0, none⟩) (by simp) _).setCell (p := ⟨w.heap.size + 1, 1, none⟩) (by simp) _).alloc (by simp; have := B.size; omega) _

/-- what both sides tell. -/
theorem post_uniq (W H n : Nat) (c : Nat → Int) (wd ht : Nat) : ∃ u0 u1 r1 : Int, ∀ (w : World) (e : Ending) (w' : World), FirstPost W H n c wd ht w e w' → e = .returned (.tuple #[.agg #[.int .i8 u0, .int .i8 u1], .int .i64 r1]) ∧ Below w.heap.size w w' := by
  by_cases h : ∃ k, k < W * H ∧ fits W H n c wd ht (cl W k) ∧ (∀ j, j < k → ¬ fits W H n c wd ht (cl W j))
  · obtain ⟨k, hk, hf, hno⟩ := h
    refine ⟨((cl W k).1 : Int), ((cl W k).2 : Int), 0, ?_⟩
    rintro w e w' ⟨hb, ⟨k', hk', hf', hno', rfl⟩ | ⟨hno', _⟩⟩
    · have : k' = k := by
        rcases Nat.lt_trichotomy k' k with e | e | e
        · exact absurd hf' (hno k' e)
        · exact e
        · exact absurd hf (hno' k e)
      subst this
      exact ⟨rfl, hb⟩
    · exact absurd hf (hno' k hk)
  · refine ⟨0, 0, 6, ?_⟩
    rintro w e w' ⟨hb, ⟨k', hk', hf', hno', rfl⟩ | ⟨_, rfl⟩⟩
    · exact absurd ⟨k', hk', hf', hno'⟩ h
    · exact ⟨rfl, hb⟩

theorem both (X Y : Int) (n : Nat) (c : Nat → Int) (k0 k1 : Int) (hX : -128 ≤ X ∧ X ≤ 127) (hY : -128 ≤ Y ∧ Y ≤ 127) (hc : ∀ j, -128 ≤ c j ∧ c j ≤ 127) (bk0 : (Lit.int .i64 k0).wf = true) (bk1 : (Lit.int .i64 k1).wf = true) (hm : n ≤ 1048576) :
    ∃ u0 u1 r1 : Int, (∀ (W : World) (g : Nat), W.rowIs g 42 (4 * n) (fun j => .int .i8 (c j)) → Calls Try.prog 16 #[.agg #[.int .i8 X, .int .i8 Y, .slice (some ⟨g, 0, none⟩) n n], .int .i64 k0, .int .i64 k1] W fun e w' => e = .returned (.tuple #[.agg #[.int .i8 u0, .int .i8 u1], .int .i64 r1]) ∧ Below W.heap.size W w') ∧
      (∀ (W : World) (g : Nat), W.rowIs g 42 (4 * n) (fun j => .int .i8 (c j)) → Calls Try.prog 18 #[.agg #[.int .i8 X, .int .i8 Y, .slice (some ⟨g, 0, none⟩) n n], .int .i64 k0, .int .i64 k1] W fun e w' => e = .returned (.tuple #[.agg #[.int .i8 u0, .int .i8 u1], .int .i64 r1]) ∧ Below W.heap.size W w') := by
  by_cases hv : Valid X Y n c
  · by_cases h0 : 1 ≤ k0 ∧ k0 ≤ 12
    · by_cases h1 : 1 ≤ k1 ∧ k1 ≤ 12
      · obtain ⟨W', rfl⟩ := Int.eq_ofNat_of_zero_le (show 0 ≤ X by have := hv.1; omega)
        obtain ⟨H', rfl⟩ := Int.eq_ofNat_of_zero_le (show 0 ≤ Y by have := hv.2.2.1; omega)
        obtain ⟨wd, rfl⟩ := Int.eq_ofNat_of_zero_le (show 0 ≤ k0 by omega)
        obtain ⟨ht, rfl⟩ := Int.eq_ofNat_of_zero_le (show 0 ≤ k1 by omega)
        obtain ⟨u0, u1, r1, hu⟩ := post_uniq W' H' n c wd ht
        exact ⟨u0, u1, r1, fun W g R => (specIn W' H' g n wd ht c W (by omega) (by omega) hc hm R hv).mono (fun e w' h => hu W e w' h), fun W g R => (implIn W' H' g n wd ht c W (by omega) (by omega) hc hm R hv).mono (fun e w' h => hu W e w' h)⟩
      · exact ⟨_, _, _, fun W g R => specB X Y g n c k0 k1 W hX hY hc hm R h0 h1 2 rfl (fun W' bq hq R' => told_ok X Y bq g n c false W' hX hY hc hm hq R' hv), fun W g R => implC X Y g n c k0 k1 W hX hY hc hm R hv h0 h1⟩
    · exact ⟨_, _, _, fun W g R => specA X Y g n c k0 k1 W hX hY hc hm R h0 2 rfl (fun W' bq hq R' => told_ok X Y bq g n c false W' hX hY hc hm hq R' hv), fun W g R => implB X Y g n c k0 k1 W hX hY hc hm R hv h0⟩
  · refine ⟨0, 0, 1, fun W g R => ?_, fun W g R => implA X Y g n c k0 k1 W hX hY hc hm R hv⟩
    by_cases h0 : 1 ≤ k0 ∧ k0 ≤ 12
    · by_cases h1 : 1 ≤ k1 ∧ k1 ≤ 12
      · exact specC X Y g n c k0 k1 W hX hY hc hm R h0 h1 1 rfl (fun W' bq hq R' => told_bad X Y bq g n c true W' hX hY hc hm hq R' hv)
      · exact specB X Y g n c k0 k1 W hX hY hc hm R h0 h1 1 rfl (fun W' bq hq R' => told_bad X Y bq g n c false W' hX hY hc hm hq R' hv)
    · exact specA X Y g n c k0 k1 W hX hY hc hm R h0 1 rfl (fun W' bq hq R' => told_bad X Y bq g n c false W' hX hY hc hm hq R' hv)

end Go.Proofs.Ytmbmdplafjminab.firstPlace
