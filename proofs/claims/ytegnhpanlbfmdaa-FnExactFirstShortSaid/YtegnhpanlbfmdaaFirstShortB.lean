/-
  Both sides of FirstShort answer the same. Conditions stand at each.
-/
import Derived.Test.YtegnhpanlbfmdaaRows
import Derived.Test.YtegnhpanlbfmdaaShortS
import Derived.Test.YtegnhpanlbfmdaaShortI
import Derived.Test.YtegnhpanlbfmdaaRunI
import Derived.Deep.Cut
namespace Go.Proofs.Ytegnhpanlbfmdaa
open Go Go.ChangeShapes Go.WideShapes Go.ChangeAt Go.RowKit
set_option linter.unusedVariables false
set_option linter.unusedSimpArgs false
set_option maxRecDepth 100000
set_option maxHeartbeats 4000000

namespace firstShort
theorem spec_bad (X Y : Int) (h : Nat → Int) (g n : Nat) (c : Nat → Int) (fall : Int) (w : World) (hX : -128 ≤ X ∧ X ≤ 127) (hY : -128 ≤ Y ∧ Y ≤ 127) (hh : ∀ p, -32768 ≤ h p ∧ h p ≤ 32767) (hc : ∀ j, -128 ≤ c j ∧ c j ≤ 127) (hm : n ≤ 1048576) (hA : Ac w g n c) (z : Int) (hz : (¬ GValid X Y h n c ∧ z = 1) ∨ (GValid X Y h n c ∧ ¬ (1 ≤ fall ∧ fall ≤ 200) ∧ z = 2)) :
    Calls Try.prog 68 #[.agg (gV X Y h (.slice (some ⟨g, 0, none⟩) n n)), .int .i64 fall] w fun e w' => Below w.heap.size w w' ∧ e = .returned (.tuple #[.agg #[.int .i8 0, .int .i8 0], .int .i64 z]) := by
  have HH := Lib.hid hh
  have HC := Lib.hid hc
  have HZ := Lib.hid hz
  clear hh hc hz
  have X2 := (Bx.new w (gV X Y h (.slice (some ⟨g, 0, none⟩) n n)) 33).alloc (.cells #[.int .i8 0, .int .i8 0] 40)
  have X4 := Bx.newAt (w.alloc (.cells (gV X Y h (.slice (some ⟨g, 0, none⟩) n n)) 33)) (w.heap.size + 1) #[.int .i8 0, .int .i8 0] 40 (by simp)
  have B := al (al (Below.refl w.heap.size w) (.cells (gV X Y h (.slice (some ⟨g, 0, none⟩) n n)) 33)) (.cells #[.int .i8 0, .int .i8 0] 40)
  replace hA := (hA.alloc (.cells (gV X Y h (.slice (some ⟨g, 0, none⟩) n n)) 33)).alloc (.cells #[.int .i8 0, .int .i8 0] 40)
  go_enter Try.func68, Try.ntmps68
  go_upto_region 1 with fail
  obtain ⟨W0, hW0⟩ : ∃ W0 : World, W0 = (w.alloc (.cells (gV X Y h (.slice (some ⟨g, 0, none⟩) n n)) 33)).alloc (.cells #[.int .i8 0, .int .i8 0] 40) := ⟨_, rfl⟩
  rw [← hW0] at X2 X4 B hA ⊢
  clear hW0
  go_wp2_with fail
  by_cases hf : 1 ≤ fall ∧ fall ≤ 200
  · refine (inn_yes fall 1 200 _ hf.1 hf.2).mono ?_
    rintro e w1 ⟨rfl, rfl⟩
    have HF := Lib.hid hf
    clear hf
    go_wp2_with fail
    refine (gasked_any X Y h w.heap.size _ n n c true _ hX hY HH.out HC.out hm X2 hA.rd).mono ?_
    rintro e w2 ⟨hbl, ⟨hv, _, rfl⟩ | ⟨hv, hf, _⟩ | ⟨hv, rfl⟩⟩
    · rcases HZ.out with k | k
      · exact absurd hv k.1
      · exact absurd HF.out k.2.1
    · cases hf
    · obtain rfl : z = 1 := by rcases HZ.out with k | k; exact k.2; exact absurd k.1 hv
      replace X4 := X4.below hbl
      replace B := nxt B hbl
      clear hbl
      clear hv X2 hA HZ
      have f40 := X4.frozen 0
      have f41 := X4.frozen 1
      have s40 := X4.cell 0
      have s41 := X4.cell 1
      go_wp2
      have Y4 := (X4.set 0 (.int .i8 0)).set 1 (.int .i8 0)
      have q40 := Y4.cell 0
      have q41 := Y4.cell 1
      simp at q40 q41
      exact bodyPost_ret (v := .tuple #[.agg #[.int .i8 0, .int .i8 0], .int .i64 1]) (by simp [results, Try.results68, go_sem, q40, q41]) rfl ⟨((B.setCell (p := ⟨w.heap.size + 1, 0, none⟩) (by simp) (.int .i8 0)).setCell (p := ⟨w.heap.size + 1, 1, none⟩) (by simp) (.int .i8 0)), rfl⟩
  · refine (inn_no fall 1 200 _ hf).mono ?_
    rintro e w1 ⟨rfl, rfl⟩
    have HF := Lib.hid hf
    clear hf
    go_wp2_with fail
    refine (gasked_any X Y h w.heap.size _ n n c false _ hX hY HH.out HC.out hm X2 hA.rd).mono ?_
    rintro e w2 ⟨hbl, ⟨hv, hf, _⟩ | ⟨hv, _, rfl⟩ | ⟨hv, rfl⟩⟩
    · cases hf
    · obtain rfl : z = 2 := by rcases HZ.out with k | k; exact absurd hv k.1; exact k.2.2
      replace X4 := X4.below hbl
      replace B := nxt B hbl
      clear hbl
      clear hv X2 hA HZ
      have f40 := X4.frozen 0
      have f41 := X4.frozen 1
      have s40 := X4.cell 0
      have s41 := X4.cell 1
      go_wp2
      have Y4 := (X4.set 0 (.int .i8 0)).set 1 (.int .i8 0)
      have q40 := Y4.cell 0
      have q41 := Y4.cell 1
      simp at q40 q41
      exact bodyPost_ret (v := .tuple #[.agg #[.int .i8 0, .int .i8 0], .int .i64 2]) (by simp [results, Try.results68, go_sem, q40, q41]) rfl ⟨((B.setCell (p := ⟨w.heap.size + 1, 0, none⟩) (by simp) (.int .i8 0)).setCell (p := ⟨w.heap.size + 1, 1, none⟩) (by simp) (.int .i8 0)), rfl⟩
    · obtain rfl : z = 1 := by rcases HZ.out with k | k; exact k.2; exact absurd k.1 hv
      replace X4 := X4.below hbl
      replace B := nxt B hbl
      clear hbl
      clear hv X2 hA HZ
      have f40 := X4.frozen 0
      have f41 := X4.frozen 1
      have s40 := X4.cell 0
      have s41 := X4.cell 1
      go_wp2
      have Y4 := (X4.set 0 (.int .i8 0)).set 1 (.int .i8 0)
      have q40 := Y4.cell 0
      have q41 := Y4.cell 1
      simp at q40 q41
      exact bodyPost_ret (v := .tuple #[.agg #[.int .i8 0, .int .i8 0], .int .i64 1]) (by simp [results, Try.results68, go_sem, q40, q41]) rfl ⟨((B.setCell (p := ⟨w.heap.size + 1, 0, none⟩) (by simp) (.int .i8 0)).setCell (p := ⟨w.heap.size + 1, 1, none⟩) (by simp) (.int .i8 0)), rfl⟩

theorem spec_in (W H : Nat) (h : Nat → Int) (g n : Nat) (c : Nat → Int) (fall : Int) (w : World) (hh : ∀ p, -32768 ≤ h p ∧ h p ≤ 32767) (hc : ∀ j, -128 ≤ c j ∧ c j ≤ 127) (hA : Ac w g n c) (hv : GValid W H h n c) (hf : 1 ≤ fall ∧ fall ≤ 200) (p0 q0 : Int) (z1 : Int) (hz : (∃ i, i < W * H ∧ ShortAt W H h n c fall (cl W i) ∧ (∀ j, j < i → ¬ ShortAt W H h n c fall (cl W j)) ∧ p0 = ((cl W i).1 : Int) ∧ q0 = ((cl W i).2 : Int) ∧ z1 = 0) ∨ ((∀ j, j < W * H → ¬ ShortAt W H h n c fall (cl W j)) ∧ p0 = 0 ∧ q0 = 0 ∧ z1 = 6)) :
    Calls Try.prog 68 #[.agg (gV W H h (.slice (some ⟨g, 0, none⟩) n n)), .int .i64 fall] w fun e w' => Below w.heap.size w w' ∧ e = .returned (.tuple #[.agg #[.int .i8 p0, .int .i8 q0], .int .i64 z1]) := by
  have hW : W ≤ 9 := by have := hv.1.1; omega
  have hW0 : 1 ≤ W := by have := hv.1.1; omega
  have hH : H ≤ 9 := by have := hv.1.2.1; omega
  have h8 : n ≤ 8 := hv.1.2.2
  have HV := Lib.hid hv
  have HH := Lib.hid hh
  have HC := Lib.hid hc
  have HZ := Lib.hid hz
  have HF := Lib.hid hf
  clear hv hh hc hz hf
  have X2 := (Bx.new w (gV W H h (.slice (some ⟨g, 0, none⟩) n n)) 33).alloc (.cells #[.int .i8 0, .int .i8 0] 40)
  have X4 := Bx.newAt (w.alloc (.cells (gV W H h (.slice (some ⟨g, 0, none⟩) n n)) 33)) (w.heap.size + 1) #[.int .i8 0, .int .i8 0] 40 (by simp)
  have B := al (al (Below.refl w.heap.size w) (.cells (gV W H h (.slice (some ⟨g, 0, none⟩) n n)) 33)) (.cells #[.int .i8 0, .int .i8 0] 40)
  replace hA := (hA.alloc (.cells (gV W H h (.slice (some ⟨g, 0, none⟩) n n)) 33)).alloc (.cells #[.int .i8 0, .int .i8 0] 40)
  go_enter Try.func68, Try.ntmps68
  go_upto_region 1 with fail
  obtain ⟨W0, hW0⟩ : ∃ W0 : World, W0 = (w.alloc (.cells (gV W H h (.slice (some ⟨g, 0, none⟩) n n)) 33)).alloc (.cells #[.int .i8 0, .int .i8 0] 40) := ⟨_, rfl⟩
  rw [← hW0] at X2 X4 B hA ⊢
  clear hW0
  go_wp2_with fail
  refine (inn_yes fall 1 200 _ HF.out.1 HF.out.2).mono ?_
  rintro e w1 ⟨rfl, rfl⟩
  go_wp2_with fail
  refine (gasked_any W H h w.heap.size _ n n c true _ (by omega) (by omega) HH.out HC.out (by omega) X2 hA.rd).mono ?_
  rintro e w2 ⟨hb, ⟨_, _, rfl⟩ | ⟨_, hf, _⟩ | ⟨hn, _⟩⟩
  case inr.inl => cases hf
  case inr.inr => exact absurd HV.out hn
  replace X2 := X2.below hb
  replace X4 := X4.below hb
  replace hA := hA.below hb
  replace B := nxt B hb
  clear hb
  go_wp2_with fail
  refine (gshort_any W H h w.heap.size _ n n c fall _ hW0 hW hH h8 HH.out HF.out.1 X2 hA.rd).mono ?_
  clear X2 hA
  rintro e w3 ⟨hb, ⟨i, hi, hs, hno, rfl⟩ | ⟨hno, rfl⟩⟩
  · have hzz : p0 = ((cl W i).1 : Int) ∧ q0 = ((cl W i).2 : Int) ∧ z1 = 0 := by
      rcases HZ.out with ⟨i', hi', hs', hn', hq⟩ | ⟨hn', _⟩
      · rcases Nat.lt_trichotomy i i' with k | k | k
        · exact absurd hs (hn' i k)
        · subst k; exact hq
        · exact absurd hs' (hno i' k)
      · exact absurd hs (hn' i hi)
    obtain ⟨rfl, rfl, rfl⟩ := hzz
    replace X4 := X4.below hb
    replace B := nxt B hb
    clear hb
    clear hno hs HZ
    obtain ⟨⟨cx, cy⟩, hcc⟩ : ∃ q, cl W i = q := ⟨_, rfl⟩
    have HCC := Lib.hid hcc
    rw [hcc]
    clear hcc
    dsimp only [cellA]
    have X7 := Bx.new w3 #[.int .i8 (cx : Int), .int .i8 (cy : Int)] 40
    replace X4 := X4.alloc (.cells #[.int .i8 (cx : Int), .int .i8 (cy : Int)] 40)
    replace B := al B (.cells #[.int .i8 (cx : Int), .int .i8 (cy : Int)] 40)
    have W4 : ∃ W4 : World, W4 = w3.alloc (.cells #[.int .i8 (cx : Int), .int .i8 (cy : Int)] 40) := ⟨_, rfl⟩
    go_upto_region 5 with fail
    obtain ⟨W4, hW4⟩ := W4
    rw [← hW4] at X4 X7 B ⊢
    clear hW4
    have hs4 := X4.lt
    have e0 := X7.cell 0
    have e1 := X7.cell 1
    simp only [List.getElem?_toArray, List.getElem?_cons_zero, List.getElem?_cons_succ] at e0 e1
    have f40 := X4.frozen 0
    have f41 := X4.frozen 1
    have s40 := X4.cell 0
    have s41 := X4.cell 1
    simp only [List.getElem?_toArray, List.getElem?_cons_zero, List.getElem?_cons_succ] at s40 s41
    go_wp2
    have Y4 := (X4.set 0 (.int .i8 (cx : Int))).set 1 (.int .i8 (cy : Int))
    have q40 := Y4.cell 0
    have q41 := Y4.cell 1
    simp at q40 q41
    exact bodyPost_ret (v := .tuple #[.agg #[.int .i8 (cx : Int), .int .i8 (cy : Int)], .int .i64 0]) (by simp [results, Try.results68, go_sem, q40, q41]) rfl ⟨((B.setCell (p := ⟨w.heap.size + 1, 0, none⟩) (by simp) (.int .i8 (cx : Int))).setCell (p := ⟨w.heap.size + 1, 1, none⟩) (by simp) (.int .i8 (cy : Int))), by rw [HCC.out]⟩
  · have hzz : p0 = 0 ∧ q0 = 0 ∧ z1 = 6 := by
      rcases HZ.out with ⟨i', hi', hs', _, _⟩ | ⟨_, hq⟩
      · exact absurd hs' (hno i' hi')
      · exact hq
    obtain ⟨rfl, rfl, rfl⟩ := hzz
    replace X4 := X4.below hb
    replace B := nxt B hb
    clear hb
    clear hno HZ
    have X7 := Bx.new w3 #[.int .i8 0, .int .i8 0] 40
    replace X4 := X4.alloc (.cells #[.int .i8 0, .int .i8 0] 40)
    replace B := al B (.cells #[.int .i8 0, .int .i8 0] 40)
    have W4 : ∃ W4 : World, W4 = w3.alloc (.cells #[.int .i8 0, .int .i8 0] 40) := ⟨_, rfl⟩
    go_upto_region 5 with fail
    obtain ⟨W4, hW4⟩ := W4
    rw [← hW4] at X4 X7 B ⊢
    clear hW4
    have hs4 := X4.lt
    have e0 := X7.cell 0
    have e1 := X7.cell 1
    simp only [List.getElem?_toArray, List.getElem?_cons_zero, List.getElem?_cons_succ] at e0 e1
    have f40 := X4.frozen 0
    have f41 := X4.frozen 1
    have s40 := X4.cell 0
    have s41 := X4.cell 1
    simp only [List.getElem?_toArray, List.getElem?_cons_zero, List.getElem?_cons_succ] at s40 s41
    go_wp2
    have Y4 := (X4.set 0 (.int .i8 0)).set 1 (.int .i8 0)
    have q40 := Y4.cell 0
    have q41 := Y4.cell 1
    simp at q40 q41
    exact bodyPost_ret (v := .tuple #[.agg #[.int .i8 0, .int .i8 0], .int .i64 6]) (by simp [results, Try.results68, go_sem, q40, q41]) rfl ⟨((B.setCell (p := ⟨w.heap.size + 1, 0, none⟩) (by simp) (.int .i8 0)).setCell (p := ⟨w.heap.size + 1, 1, none⟩) (by simp) (.int .i8 0)), rfl⟩

theorem impl_bad (X Y : Int) (h : Nat → Int) (g n : Nat) (c : Nat → Int) (fall : Int) (w : World) (hX : -128 ≤ X ∧ X ≤ 127) (hY : -128 ≤ Y ∧ Y ≤ 127) (hh : ∀ p, -32768 ≤ h p ∧ h p ≤ 32767) (hc : ∀ j, -128 ≤ c j ∧ c j ≤ 127) (hm : n ≤ 1048576) (hA : Ac w g n c) (z : Int) (hz : (¬ GValid X Y h n c ∧ z = 1) ∨ (GValid X Y h n c ∧ ¬ (1 ≤ fall ∧ fall ≤ 200) ∧ z = 2)) :
    Calls Try.prog 69 #[.agg (gV X Y h (.slice (some ⟨g, 0, none⟩) n n)), .int .i64 fall] w fun e w' => Below w.heap.size w w' ∧ e = .returned (.tuple #[.agg #[.int .i8 0, .int .i8 0], .int .i64 z]) := by
  have HH := Lib.hid hh
  have HC := Lib.hid hc
  have HZ := Lib.hid hz
  clear hh hc hz
  have X2 := (Bx.new w (gV X Y h (.slice (some ⟨g, 0, none⟩) n n)) 33).alloc (.cells #[.int .i8 0, .int .i8 0] 40)
  have X4 := Bx.newAt (w.alloc (.cells (gV X Y h (.slice (some ⟨g, 0, none⟩) n n)) 33)) (w.heap.size + 1) #[.int .i8 0, .int .i8 0] 40 (by simp)
  have B := al (al (Below.refl w.heap.size w) (.cells (gV X Y h (.slice (some ⟨g, 0, none⟩) n n)) 33)) (.cells #[.int .i8 0, .int .i8 0] 40)
  replace hA := (hA.alloc (.cells (gV X Y h (.slice (some ⟨g, 0, none⟩) n n)) 33)).alloc (.cells #[.int .i8 0, .int .i8 0] 40)
  go_enter Try.func69, Try.ntmps69
  go_upto_region 1 with fail
  obtain ⟨W0, hW0⟩ : ∃ W0 : World, W0 = (w.alloc (.cells (gV X Y h (.slice (some ⟨g, 0, none⟩) n n)) 33)).alloc (.cells #[.int .i8 0, .int .i8 0] 40) := ⟨_, rfl⟩
  rw [← hW0] at X2 X4 B hA ⊢
  clear hW0
  go_wp2_with (refine wpList_load_box X2 rfl _ _ rfl rfl _ Try.underlying33 rfl (infoGv _ _ _ _) ?_)
  refine (short_bad X Y h g n c fall _ hX hY HH.out HC.out hm hA z HZ.out).mono ?_
  clear X2 hA
  rintro e w1 ⟨hb, rfl⟩
  have hz0 : z ≠ 0 := by rcases HZ.out with k | k; have := k.2; omega; have := k.2.2; omega
  have hz1 : (z == 0) = false := by simpa using hz0
  replace X4 := X4.below hb
  replace B := nxt B hb
  clear hb
  clear HZ
  have X7 := Bx.new w1 #[.int .i8 0, .int .i8 0] 40
  replace X4 := X4.alloc (.cells #[.int .i8 0, .int .i8 0] 40)
  replace B := al B (.cells #[.int .i8 0, .int .i8 0] 40)
  have W4 : ∃ W4 : World, W4 = w1.alloc (.cells #[.int .i8 0, .int .i8 0] 40) := ⟨_, rfl⟩
  go_upto_region 2 with fail
  obtain ⟨W4, hW4⟩ := W4
  rw [← hW4] at X4 X7 B ⊢
  clear hW4
  have hs4 := X4.lt
  have e0 := X7.cell 0
  have e1 := X7.cell 1
  simp only [List.getElem?_toArray, List.getElem?_cons_zero, List.getElem?_cons_succ] at e0 e1
  have f40 := X4.frozen 0
  have f41 := X4.frozen 1
  have s40 := X4.cell 0
  have s41 := X4.cell 1
  simp only [List.getElem?_toArray, List.getElem?_cons_zero, List.getElem?_cons_succ] at s40 s41
  go_wp2
  have Y4 := (X4.set 0 (.int .i8 0)).set 1 (.int .i8 0)
  have q40 := Y4.cell 0
  have q41 := Y4.cell 1
  simp at q40 q41
  exact bodyPost_ret (v := .tuple #[.agg #[.int .i8 0, .int .i8 0], .int .i64 z]) (by simp [results, Try.results69, go_sem, q40, q41]) rfl ⟨((B.setCell (p := ⟨w.heap.size + 1, 0, none⟩) (by simp) (.int .i8 0)).setCell (p := ⟨w.heap.size + 1, 1, none⟩) (by simp) (.int .i8 0)), rfl⟩

theorem impl_in (W H : Nat) (h : Nat → Int) (g n : Nat) (c : Nat → Int) (fall : Int) (w : World) (hh : ∀ p, -32768 ≤ h p ∧ h p ≤ 32767) (hc : ∀ j, -128 ≤ c j ∧ c j ≤ 127) (hA : Ac w g n c) (hv : GValid W H h n c) (hf : 1 ≤ fall ∧ fall ≤ 200) (p0 q0 : Int) (z1 : Int) (hz : (∃ i, i < W * H ∧ ShortAt W H h n c fall (cl W i) ∧ (∀ j, j < i → ¬ ShortAt W H h n c fall (cl W j)) ∧ p0 = ((cl W i).1 : Int) ∧ q0 = ((cl W i).2 : Int) ∧ z1 = 0) ∨ ((∀ j, j < W * H → ¬ ShortAt W H h n c fall (cl W j)) ∧ p0 = 0 ∧ q0 = 0 ∧ z1 = 6)) :
    Calls Try.prog 69 #[.agg (gV W H h (.slice (some ⟨g, 0, none⟩) n n)), .int .i64 fall] w fun e w' => Below w.heap.size w w' ∧ e = .returned (.tuple #[.agg #[.int .i8 p0, .int .i8 q0], .int .i64 z1]) := by
  have HV := Lib.hid hv
  have HH := Lib.hid hh
  have HC := Lib.hid hc
  have HZ := Lib.hid hz
  have HF := Lib.hid hf
  clear hv hh hc hz hf
  have X2 := (Bx.new w (gV W H h (.slice (some ⟨g, 0, none⟩) n n)) 33).alloc (.cells #[.int .i8 0, .int .i8 0] 40)
  have X4 := Bx.newAt (w.alloc (.cells (gV W H h (.slice (some ⟨g, 0, none⟩) n n)) 33)) (w.heap.size + 1) #[.int .i8 0, .int .i8 0] 40 (by simp)
  have B := al (al (Below.refl w.heap.size w) (.cells (gV W H h (.slice (some ⟨g, 0, none⟩) n n)) 33)) (.cells #[.int .i8 0, .int .i8 0] 40)
  replace hA := (hA.alloc (.cells (gV W H h (.slice (some ⟨g, 0, none⟩) n n)) 33)).alloc (.cells #[.int .i8 0, .int .i8 0] 40)
  go_enter Try.func69, Try.ntmps69
  go_upto_region 1 with fail
  obtain ⟨W0, hW0⟩ : ∃ W0 : World, W0 = (w.alloc (.cells (gV W H h (.slice (some ⟨g, 0, none⟩) n n)) 33)).alloc (.cells #[.int .i8 0, .int .i8 0] 40) := ⟨_, rfl⟩
  rw [← hW0] at X2 X4 B hA ⊢
  clear hW0
  go_wp2_with (refine wpList_load_box X2 rfl _ _ rfl rfl _ Try.underlying33 rfl (infoGv _ _ _ _) ?_)
  refine (callsIn_wide.1 (short_in W H h g n c fall _ HH.out HC.out hA HV.out HF.out)).mono ?_
  clear X2 hA
  rintro e w3 ⟨hb, ⟨i, hi, hs, hno, rfl⟩ | ⟨hno, rfl⟩⟩
  · have hzz : p0 = ((cl W i).1 : Int) ∧ q0 = ((cl W i).2 : Int) ∧ z1 = 0 := by
      rcases HZ.out with ⟨i', hi', hs', hn', hq⟩ | ⟨hn', _⟩
      · rcases Nat.lt_trichotomy i i' with k | k | k
        · exact absurd hs (hn' i k)
        · subst k; exact hq
        · exact absurd hs' (hno i' k)
      · exact absurd hs (hn' i hi)
    obtain ⟨rfl, rfl, rfl⟩ := hzz
    replace X4 := X4.below hb
    replace B := nxt B hb
    clear hb
    clear hno hs HZ
    obtain ⟨⟨cx, cy⟩, hcc⟩ : ∃ q, cl W i = q := ⟨_, rfl⟩
    have HCC := Lib.hid hcc
    rw [hcc]
    clear hcc
    dsimp only [cellA]
    have X7 := Bx.new w3 #[.int .i8 (cx : Int), .int .i8 (cy : Int)] 40
    replace X4 := X4.alloc (.cells #[.int .i8 (cx : Int), .int .i8 (cy : Int)] 40)
    replace B := al B (.cells #[.int .i8 (cx : Int), .int .i8 (cy : Int)] 40)
    have W4 : ∃ W4 : World, W4 = w3.alloc (.cells #[.int .i8 (cx : Int), .int .i8 (cy : Int)] 40) := ⟨_, rfl⟩
    go_upto_region 2 with fail
    obtain ⟨W4, hW4⟩ := W4
    rw [← hW4] at X4 X7 B ⊢
    clear hW4
    have hs4 := X4.lt
    have e0 := X7.cell 0
    have e1 := X7.cell 1
    simp only [List.getElem?_toArray, List.getElem?_cons_zero, List.getElem?_cons_succ] at e0 e1
    have f40 := X4.frozen 0
    have f41 := X4.frozen 1
    have s40 := X4.cell 0
    have s41 := X4.cell 1
    simp only [List.getElem?_toArray, List.getElem?_cons_zero, List.getElem?_cons_succ] at s40 s41
    go_wp2
    have Y4 := (X4.set 0 (.int .i8 (cx : Int))).set 1 (.int .i8 (cy : Int))
    have q40 := Y4.cell 0
    have q41 := Y4.cell 1
    simp at q40 q41
    exact bodyPost_ret (v := .tuple #[.agg #[.int .i8 (cx : Int), .int .i8 (cy : Int)], .int .i64 0]) (by simp [results, Try.results69, go_sem, q40, q41]) rfl ⟨((B.setCell (p := ⟨w.heap.size + 1, 0, none⟩) (by simp) (.int .i8 (cx : Int))).setCell (p := ⟨w.heap.size + 1, 1, none⟩) (by simp) (.int .i8 (cy : Int))), by rw [HCC.out]⟩
  · have hzz : p0 = 0 ∧ q0 = 0 ∧ z1 = 6 := by
      rcases HZ.out with ⟨i', hi', hs', _, _⟩ | ⟨_, hq⟩
      · exact absurd hs' (hno i' hi')
      · exact hq
    obtain ⟨rfl, rfl, rfl⟩ := hzz
    replace X4 := X4.below hb
    replace B := nxt B hb
    clear hb
    clear hno HZ
    have X7 := Bx.new w3 #[.int .i8 0, .int .i8 0] 40
    replace X4 := X4.alloc (.cells #[.int .i8 0, .int .i8 0] 40)
    replace B := al B (.cells #[.int .i8 0, .int .i8 0] 40)
    have W4 : ∃ W4 : World, W4 = w3.alloc (.cells #[.int .i8 0, .int .i8 0] 40) := ⟨_, rfl⟩
    go_upto_region 2 with fail
    obtain ⟨W4, hW4⟩ := W4
    rw [← hW4] at X4 X7 B ⊢
    clear hW4
    have hs4 := X4.lt
    have e0 := X7.cell 0
    have e1 := X7.cell 1
    simp only [List.getElem?_toArray, List.getElem?_cons_zero, List.getElem?_cons_succ] at e0 e1
    have f40 := X4.frozen 0
    have f41 := X4.frozen 1
    have s40 := X4.cell 0
    have s41 := X4.cell 1
    simp only [List.getElem?_toArray, List.getElem?_cons_zero, List.getElem?_cons_succ] at s40 s41
    go_wp2
    have Y4 := (X4.set 0 (.int .i8 0)).set 1 (.int .i8 0)
    have q40 := Y4.cell 0
    have q41 := Y4.cell 1
    simp at q40 q41
    exact bodyPost_ret (v := .tuple #[.agg #[.int .i8 0, .int .i8 0], .int .i64 6]) (by simp [results, Try.results69, go_sem, q40, q41]) rfl ⟨((B.setCell (p := ⟨w.heap.size + 1, 0, none⟩) (by simp) (.int .i8 0)).setCell (p := ⟨w.heap.size + 1, 1, none⟩) (by simp) (.int .i8 0)), rfl⟩

theorem both (X Y : Int) (h : Nat → Int) (n : Nat) (c : Nat → Int) (fall : Int) (hX : -128 ≤ X ∧ X ≤ 127) (hY : -128 ≤ Y ∧ Y ≤ 127) (hh : ∀ p, -32768 ≤ h p ∧ h p ≤ 32767) (hc : ∀ j, -128 ≤ c j ∧ c j ≤ 127) (hm : n ≤ 1048576) (hk : (Lit.int .i64 fall).wf = true) :
    ∃ (p0 q0 : Int) (z1 : Int), (∀ (W : World) (g : Nat), Ac W g n c → Calls Try.prog 68 #[.agg (gV X Y h (.slice (some ⟨g, 0, none⟩) n n)), .int .i64 fall] W fun e w' => Below W.heap.size W w' ∧ e = .returned (.tuple #[.agg #[.int .i8 p0, .int .i8 q0], .int .i64 z1])) ∧
      (∀ (W : World) (g : Nat), Ac W g n c → Calls Try.prog 69 #[.agg (gV X Y h (.slice (some ⟨g, 0, none⟩) n n)), .int .i64 fall] W fun e w' => Below W.heap.size W w' ∧ e = .returned (.tuple #[.agg #[.int .i8 p0, .int .i8 q0], .int .i64 z1])) := by
  by_cases hv : GValid X Y h n c
  · by_cases hf : 1 ≤ fall ∧ fall ≤ 200
    · obtain ⟨W', rfl⟩ := Int.eq_ofNat_of_zero_le (show 0 ≤ X by have := hv.1.1; omega)
      obtain ⟨H', rfl⟩ := Int.eq_ofNat_of_zero_le (show 0 ≤ Y by have := hv.1.2.1; omega)
      by_cases hg : ∃ i, i < W' * H' ∧ ShortAt W' H' h n c fall (cl W' i)
      · obtain ⟨k, hk⟩ := hg
        obtain ⟨i, ⟨hi, hs⟩, hno⟩ := least_of (P := fun i => i < W' * H' ∧ ShortAt W' H' h n c fall (cl W' i)) k hk
        have hno' : ∀ j, j < i → ¬ ShortAt W' H' h n c fall (cl W' j) := fun j hj hsj => hno j hj ⟨by omega, hsj⟩
        exact ⟨((cl W' i).1 : Int), ((cl W' i).2 : Int), 0, fun W g A => spec_in W' H' h g n c fall W hh hc A hv hf _ _ _ (.inl ⟨i, hi, hs, hno', rfl, rfl, rfl⟩), fun W g A => impl_in W' H' h g n c fall W hh hc A hv hf _ _ _ (.inl ⟨i, hi, hs, hno', rfl, rfl, rfl⟩)⟩
      · have hno : ∀ j, j < W' * H' → ¬ ShortAt W' H' h n c fall (cl W' j) := fun j hj hs => hg ⟨j, hj, hs⟩
        exact ⟨0, 0, 6, fun W g A => spec_in W' H' h g n c fall W hh hc A hv hf _ _ _ (.inr ⟨hno, rfl, rfl, rfl⟩), fun W g A => impl_in W' H' h g n c fall W hh hc A hv hf _ _ _ (.inr ⟨hno, rfl, rfl, rfl⟩)⟩
    · exact ⟨0, 0, 2, fun W g A => spec_bad X Y h g n c fall W hX hY hh hc hm A 2 (.inr ⟨hv, hf, rfl⟩), fun W g A => impl_bad X Y h g n c fall W hX hY hh hc hm A 2 (.inr ⟨hv, hf, rfl⟩)⟩
  · exact ⟨0, 0, 1, fun W g A => spec_bad X Y h g n c fall W hX hY hh hc hm A 1 (.inl ⟨hv, rfl⟩), fun W g A => impl_bad X Y h g n c fall W hX hY hh hc hm A 1 (.inl ⟨hv, rfl⟩)⟩
end firstShort
end Go.Proofs.Ytegnhpanlbfmdaa
