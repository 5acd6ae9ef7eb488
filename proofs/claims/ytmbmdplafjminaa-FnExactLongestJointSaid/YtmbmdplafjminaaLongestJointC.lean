/-
  Both sides of LongestJoint answer the same. Conditions stand at each.
-/
import Derived.Test.YtmbmdplafjminaaRows
import Derived.Test.YtmbmdplafjminaaLongestI
namespace Go.Proofs.Ytmbmdplafjminaa.longestJoint
open Go Go.ChangeShapes Go.WideShapes Go.ChangeAt Go.RowKit
set_option linter.unusedVariables false
set_option linter.unusedSimpArgs false
set_option maxRecDepth 100000
set_option maxHeartbeats 2000000

theorem spec_bad (X Y : Int) (g n : Nat) (c : Nat → Int) (w : World) (hX : -128 ≤ X ∧ X ≤ 127) (hY : -128 ≤ Y ∧ Y ≤ 127) (hc : ∀ j, -128 ≤ c j ∧ c j ≤ 127) (hm : n ≤ 1048576) (hrow : w.rowIs g 58 (4 * n) (fun j => .int .i8 (c j))) (hv : ¬ Valid X Y n c) : Calls Try.prog 49 #[.agg #[.int .i8 X, .int .i8 Y, .slice (some ⟨g, 0, none⟩) n n]] w fun e w' => e = .returned (.tuple #[.agg #[.int .i8 0, .int .i8 0], .int .i64 0, .bool false, .int .i64 1]) ∧ Below w.heap.size w w' := by
  go_enter Try.func49, Try.ntmps49
  go_wp2_with fail
  have HQ := (Sq.new w X Y (.slice (some ⟨g, 0, none⟩) n n) 32).alloc (.cells #[.int .i8 0, .int .i8 0] 45)
  have B := al (al (Below.refl w.heap.size w) (.cells #[.int .i8 X, .int .i8 Y, .slice (some ⟨g, 0, none⟩) n n] 32)) (.cells #[.int .i8 0, .int .i8 0] 45)
  have H6 : ((w.alloc (.cells #[.int .i8 X, .int .i8 Y, .slice (some ⟨g, 0, none⟩) n n] 32)).alloc (.cells #[.int .i8 0, .int .i8 0] 45)).heap[w.heap.size + 1]? = some (.cells #[.int .i8 0, .int .i8 0] 45 (0, 0)) := by
    have := heap_alloc_new (w.alloc (.cells #[.int .i8 X, .int .i8 Y, .slice (some ⟨g, 0, none⟩) n n] 32)) (.cells #[.int .i8 0, .int .i8 0] 45)
    simpa using this
  obtain ⟨W0, hW0⟩ : ∃ W0 : World, W0 = ((w.alloc (.cells #[.int .i8 X, .int .i8 Y, .slice (some ⟨g, 0, none⟩) n n] 32)).alloc (.cells #[.int .i8 0, .int .i8 0] 45)) := ⟨_, rfl⟩
  rw [← hW0] at HQ B H6 ⊢
  have hs0 : w.heap.size + 1 < W0.heap.size := by rw [hW0]; simp
  clear hW0
  have HH6 := Lib.hid H6
  clear H6
  refine (ok_any X Y _ g n c _ hX hY hc hm HQ (hrow.of_block (B.block _ hrow.lt))).mono ?_
  rintro e w1 ⟨hb, ⟨h, _⟩ | ⟨_, rfl⟩⟩
  · exact absurd h hv
  replace HH6 := Lib.hid ((hb.block _ hs0).trans HH6.out)
  replace B := nxt B hb
  clear hb
  have e0 := cell_of_row w1 (w.heap.size + 1) 0 _ _ _ HH6.out
  have e1 := cell_of_row w1 (w.heap.size + 1) 1 _ _ _ HH6.out
  have f0 := frozen_of_row w1 (w.heap.size + 1) 0 _ _ HH6.out
  have f1 := frozen_of_row w1 (w.heap.size + 1) 1 _ _ HH6.out
  simp at e0 e1
  go_wp2
  refine bodyPost_ret (v := .tuple #[.agg #[.int .i8 0, .int .i8 0], .int .i64 0, .bool false, .int .i64 1]) (by simp [results, Try.results49, go_sem, e0, e1]) rfl ⟨rfl, ?_⟩
  exact (B.setCell (p := ⟨w.heap.size + 1, 0, none⟩) (by simp) _).setCell (p := ⟨w.heap.size + 1, 1, none⟩) (by simp) _

theorem impl_bad (X Y : Int) (g n : Nat) (c : Nat → Int) (w : World) (hX : -128 ≤ X ∧ X ≤ 127) (hY : -128 ≤ Y ∧ Y ≤ 127) (hc : ∀ j, -128 ≤ c j ∧ c j ≤ 127) (hm : n ≤ 1048576) (hrow : w.rowIs g 58 (4 * n) (fun j => .int .i8 (c j))) (hv : ¬ Valid X Y n c) : Calls Try.prog 50 #[.agg #[.int .i8 X, .int .i8 Y, .slice (some ⟨g, 0, none⟩) n n]] w fun e w' => e = .returned (.tuple #[.agg #[.int .i8 0, .int .i8 0], .int .i64 0, .bool false, .int .i64 1]) ∧ Below w.heap.size w w' := by
  go_enter Try.func50, Try.ntmps50
  go_wp2_with fail
  have HQ := (Sq.new w X Y (.slice (some ⟨g, 0, none⟩) n n) 32).alloc (.cells #[.int .i8 0, .int .i8 0] 45)
  have B := al (al (Below.refl w.heap.size w) (.cells #[.int .i8 X, .int .i8 Y, .slice (some ⟨g, 0, none⟩) n n] 32)) (.cells #[.int .i8 0, .int .i8 0] 45)
  have H6 : ((w.alloc (.cells #[.int .i8 X, .int .i8 Y, .slice (some ⟨g, 0, none⟩) n n] 32)).alloc (.cells #[.int .i8 0, .int .i8 0] 45)).heap[w.heap.size + 1]? = some (.cells #[.int .i8 0, .int .i8 0] 45 (0, 0)) := by
    have := heap_alloc_new (w.alloc (.cells #[.int .i8 X, .int .i8 Y, .slice (some ⟨g, 0, none⟩) n n] 32)) (.cells #[.int .i8 0, .int .i8 0] 45)
    simpa using this
  obtain ⟨W0, hW0⟩ : ∃ W0 : World, W0 = ((w.alloc (.cells #[.int .i8 X, .int .i8 Y, .slice (some ⟨g, 0, none⟩) n n] 32)).alloc (.cells #[.int .i8 0, .int .i8 0] 45)) := ⟨_, rfl⟩
  rw [← hW0] at HQ B H6 ⊢
  have hs0 : w.heap.size + 1 < W0.heap.size := by rw [hW0]; simp
  clear hW0
  have HH6 := Lib.hid H6
  clear H6
  refine (implValid_any X Y g n c _ hX hY hc hm (hrow.of_block (B.block _ hrow.lt))).mono ?_
  rintro e w1 ⟨hb, ⟨h, _⟩ | ⟨_, rfl⟩⟩
  · exact absurd h hv
  replace HH6 := Lib.hid ((hb.block _ hs0).trans HH6.out)
  replace B := nxt B hb
  clear hb
  have e0 := cell_of_row w1 (w.heap.size + 1) 0 _ _ _ HH6.out
  have e1 := cell_of_row w1 (w.heap.size + 1) 1 _ _ _ HH6.out
  have f0 := frozen_of_row w1 (w.heap.size + 1) 0 _ _ HH6.out
  have f1 := frozen_of_row w1 (w.heap.size + 1) 1 _ _ HH6.out
  simp at e0 e1
  go_wp2
  refine bodyPost_ret (v := .tuple #[.agg #[.int .i8 0, .int .i8 0], .int .i64 0, .bool false, .int .i64 1]) (by simp [results, Try.results50, go_sem, e0, e1]) rfl ⟨rfl, ?_⟩
  exact (B.setCell (p := ⟨w.heap.size + 1, 0, none⟩) (by simp) _).setCell (p := ⟨w.heap.size + 1, 1, none⟩) (by simp) _

theorem res_form (s : JS) : ∃ (u0 u1 r1 : Int) (r2 : Bool) (r3 : Int), LongRes s = .tuple #[.agg #[.int .i8 u0, .int .i8 u1], .int .i64 r1, .bool r2, .int .i64 r3] := by
  unfold LongRes
  split
  · exact ⟨_, _, _, _, _, rfl⟩
  · exact ⟨_, _, _, _, _, rfl⟩

theorem both (X Y : Int) (n : Nat) (c : Nat → Int) (hX : -128 ≤ X ∧ X ≤ 127) (hY : -128 ≤ Y ∧ Y ≤ 127) (hc : ∀ j, -128 ≤ c j ∧ c j ≤ 127) (hm : n ≤ 1048576) :
    ∃ (u0 u1 : Int) (r1 : Int) (r2 : Bool) (r3 : Int), (∀ (W : World) (g : Nat), W.rowIs g 58 (4 * n) (fun j => .int .i8 (c j)) → Calls Try.prog 49 #[.agg #[.int .i8 X, .int .i8 Y, .slice (some ⟨g, 0, none⟩) n n]] W fun e w' => e = .returned (.tuple #[.agg #[.int .i8 u0, .int .i8 u1], .int .i64 r1, .bool r2, .int .i64 r3]) ∧ Below W.heap.size W w') ∧ (∀ (W : World) (g : Nat), W.rowIs g 58 (4 * n) (fun j => .int .i8 (c j)) → Calls Try.prog 50 #[.agg #[.int .i8 X, .int .i8 Y, .slice (some ⟨g, 0, none⟩) n n]] W fun e w' => e = .returned (.tuple #[.agg #[.int .i8 u0, .int .i8 u1], .int .i64 r1, .bool r2, .int .i64 r3]) ∧ Below W.heap.size W w') := by
  by_cases hv : Valid X Y n c
  · obtain ⟨W', rfl⟩ := Int.eq_ofNat_of_zero_le (show 0 ≤ X by have := hv.1; omega)
    obtain ⟨H', rfl⟩ := Int.eq_ofNat_of_zero_le (show 0 ≤ Y by have := hv.2.2.1; omega)
    obtain ⟨u0, u1, r1, r2, r3, hres⟩ := res_form (bestJ (gridN c n) (allC W' (W' * H')))
    refine ⟨u0, u1, r1, r2, r3, fun W g R => (specLong_in W' H' g n c W hc hm R hv).mono ?_, fun W g R => (callsIn_wide.1 (implLong_in W' H' g n c W hc hm R hv)).mono ?_⟩
    · rintro e w' ⟨he, hb⟩; exact ⟨by rw [he, hres], hb⟩
    · rintro e w' ⟨he, hb⟩; exact ⟨by rw [he, hres], hb⟩
  · exact ⟨_, _, _, _, _, fun W g R => spec_bad X Y g n c W hX hY hc hm R hv, fun W g R => impl_bad X Y g n c W hX hY hc hm R hv⟩
end Go.Proofs.Ytmbmdplafjminaa.longestJoint
