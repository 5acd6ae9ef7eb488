/-
  The program's SteepestFall. Conditions stand at each.
-/
import Derived.Test.YtegnhpanlbfmdaaRows
import Derived.Test.YtegnhpanlbfmdaaSteepM
import Derived.Deep.Cut
import Derived.Deep.RegionHeld3
namespace Go.Proofs.Ytegnhpanlbfmdaa
open Go Go.ChangeShapes Go.WideShapes Go.ChangeAt Go.RowKit
set_option linter.unusedVariables false
set_option linter.unusedSimpArgs false
set_option maxRecDepth 100000
set_option maxHeartbeats 4000000

namespace steepestFall
theorem impl_in (W H : Nat) (h : Nat → Int) (g n : Nat) (c : Nat → Int) (w : World) (hh : ∀ p, -32768 ≤ h p ∧ h p ≤ 32767) (hc : ∀ j, -128 ≤ c j ∧ c j ≤ 127) (hA : Ac w g n c) (hv : GValid W H h n c) (p0 q0 p1 q1 z2 z3 : Int) (k : Nat) (hk : k = (lsS (fun i => - dF W H h (cl W i)) (W * H)).1) (hz : (dF W H h (cl W k) = 0 ∧ p0 = 0 ∧ q0 = 0 ∧ p1 = 0 ∧ q1 = 0 ∧ z2 = 0 ∧ z3 = 6) ∨ (dF W H h (cl W k) ≠ 0 ∧ p0 = ((cl W k).1 : Int) ∧ q0 = ((cl W k).2 : Int) ∧ p1 = ((lowP W H h (cl W k)).1 : Int) ∧ q1 = ((lowP W H h (cl W k)).2 : Int) ∧ z2 = dF W H h (cl W k) ∧ z3 = 0)) :
    Calls Try.prog 49 #[.agg (gV W H h (.slice (some ⟨g, 0, none⟩) n n))] w fun e w' => Below w.heap.size w w' ∧ e = .returned (.tuple #[.agg #[.int .i8 p0, .int .i8 q0], .agg #[.int .i8 p1, .int .i8 q1], .int .i64 z2, .int .i64 z3]) := by
  have hX : 1 ≤ (W : Int) ∧ (W : Int) ≤ 9 := hv.1.1
  have hY : 1 ≤ (H : Int) ∧ (H : Int) ≤ 9 := hv.1.2.1
  have h8 : n ≤ 8 := hv.1.2.2
  have hW : W ≤ 9 := by omega
  have hH : H ≤ 9 := by omega
  have HV := Lib.hid hv
  have HH := Lib.hid hh
  have HC := Lib.hid hc
  have HZ := Lib.hid hz
  have HK := Lib.hid hk
  have hN1 : 1 ≤ W * H := Nat.mul_pos (by omega) (by omega)
  have hN81 : W * H ≤ 81 := Nat.mul_le_mul hW hH
  clear hv hh hc hz hk
  have hmf : ∀ (fn : Fn) (first cap : Array Value) (w : World), (Instr.makeFunc fn first cap).run Try.prog w = .ok (.func fn first cap) w := fun _ _ _ _ => rfl
  have X2 := ((Bx.new w (gV W H h (.slice (some ⟨g, 0, none⟩) n n)) 33).alloc (.cells #[.int .i8 0, .int .i8 0] 40)).alloc (.cells #[.int .i8 0, .int .i8 0] 40)
  have Z2 := (Bx.newAt (w.alloc (.cells (gV W H h (.slice (some ⟨g, 0, none⟩) n n)) 33)) (w.heap.size + 1) #[.int .i8 0, .int .i8 0] 40 (by simp)).alloc (.cells #[.int .i8 0, .int .i8 0] 40)
  have Z3 := Bx.newAt ((w.alloc (.cells (gV W H h (.slice (some ⟨g, 0, none⟩) n n)) 33)).alloc (.cells #[.int .i8 0, .int .i8 0] 40)) (w.heap.size + 1 + 1) #[.int .i8 0, .int .i8 0] 40 (by simp)
  have B := al (al (al (Below.refl w.heap.size w) (.cells (gV W H h (.slice (some ⟨g, 0, none⟩) n n)) 33)) (.cells #[.int .i8 0, .int .i8 0] 40)) (.cells #[.int .i8 0, .int .i8 0] 40)
  replace hA := ((hA.alloc (.cells (gV W H h (.slice (some ⟨g, 0, none⟩) n n)) 33)).alloc (.cells #[.int .i8 0, .int .i8 0] 40)).alloc (.cells #[.int .i8 0, .int .i8 0] 40)
  go_enter Try.func49, Try.ntmps49
  go_upto_region 1 with fail
  obtain ⟨W0, hW0⟩ : ∃ W0 : World, W0 = ((w.alloc (.cells (gV W H h (.slice (some ⟨g, 0, none⟩) n n)) 33)).alloc (.cells #[.int .i8 0, .int .i8 0] 40)).alloc (.cells #[.int .i8 0, .int .i8 0] 40) := ⟨_, rfl⟩
  rw [← hW0] at X2 Z2 Z3 B hA ⊢
  clear hW0
  have hzz := Z3.lt
  go_wp2_with (refine wpList_load_box X2 rfl _ _ rfl rfl _ Try.underlying33 rfl (infoGv _ _ _ _) ?_)
  refine (landOf_any W H h g n c _ (by omega) (by omega) HH.out HC.out (by omega) hA).mono ?_
  clear X2 hA
  rintro e w1 ⟨hb, ⟨_, p, m, rfl, hpm, hmp, hL⟩ | ⟨hv, _⟩⟩
  case inr => exact absurd HV.out hv
  have hs1 := hb.size
  have X6 := Bx.new w1 #[.pointer (some ⟨p, 0, none⟩)] 130
  replace Z2 := (Z2.below hb).alloc (.cells #[.pointer (some ⟨p, 0, none⟩)] 130)
  replace Z3 := (Z3.below hb).alloc (.cells #[.pointer (some ⟨p, 0, none⟩)] 130)
  replace B := al (nxt B hb) (.cells #[.pointer (some ⟨p, 0, none⟩)] 130)
  clear hb
  replace hL := hL.next (al (Below.refl w1.heap.size w1) (.cells #[.pointer (some ⟨p, 0, none⟩)] 130))
  have W1 : ∃ W1 : World, W1 = w1.alloc (.cells #[.pointer (some ⟨p, 0, none⟩)] 130) := ⟨_, rfl⟩
  go_upto_region 4 with fail
  obtain ⟨W1, hW1⟩ := W1
  rw [← hW1] at Z2 Z3 X6 B hL ⊢
  clear hW1
  obtain ⟨l1, p1_, q1_, r1⟩ := hL.1.gcells
  have cp := X6.cell 0
  simp only [List.getElem?_toArray, List.getElem?_cons_zero] at cp
  go_wp2_with fail
  refine (callsIn_wide.1 (points_in 6 (by omega) W H _)).mono ?_
  rintro e w2 ⟨hb, bs, rfl, hbs, hSl⟩
  replace hL := hL.next hb
  replace Z2 := Z2.below hb
  replace Z3 := Z3.below hb
  replace X6 := X6.below hb
  replace B := nxt B hb
  clear hb
  clear l1 p1_ q1_ r1 cp
  go_wp2_with fail
  refine (collectC_any bs W H (by omega) (by omega) (by omega) _ hSl).mono ?_
  rintro e w3 ⟨hb, v, rfl, OL⟩
  replace hL := hL.next hb
  replace Z2 := Z2.below hb
  replace Z3 := Z3.below hb
  replace X6 := X6.below hb
  replace B := nxt B hb
  clear hb
  clear hSl
  obtain ⟨N, hN⟩ : ∃ N, N = W * H := ⟨_, rfl⟩
  rw [← hN] at hN1 hN81 HK OL
  obtain ⟨A2, cap2, rfl, _⟩ := OL.form
  rw [allC_length] at OL ⊢
  have hrd : RdK .i8 w3 w3.heap.size A2 (2 * N) (cfL (allC W N)) := by
    obtain ⟨A3, g3, cap3, S3⟩ := OL.hasL
    have he := S3.1
    injection he with e1 e2 e3
    subst e1
    rw [allC_length] at S3
    exact S3.rdC
  have hcf : ∀ i, i < N → cfL (allC W N) (2 * i) = ((cl W i).1 : Int) ∧ cfL (allC W N) (2 * i + 1) = ((cl W i).2 : Int) := fun i hi => cfL_at (allC_get W N i hi)
  have HCF := Lib.hid hcf
  have hE : ∀ (args : Array Value) (w : World), (callFunc 140 args).run Try.prog w = .ok (.enter 140 args) w := enters_of Try.func140 (by kernel_rfl) rfl
  have hleast := leastC_any 140 #[.pointer (some ⟨w1.heap.size, 0, none⟩)] A2 N cap2 (cfL (allC W N)) (fun i => - dF W H h (cl W i)) w3 hN1 (by omega) hrd hE (fun Wd hWd i hi => by
    rw [(HCF.out i hi).1, (HCF.out i hi).2]
    have hcl := cl_lt (by omega : W ≤ 12) (by omega : H ≤ 12) (show i < W * H by rw [← hN]; exact hi)
    exact steepC_any W H (cl W i).1 (cl W i).2 w1.heap.size p m n h c Wd hW hH hcl.1 hcl.2 HH.out (X6.below hWd) (hL.below hWd hL.lt))
  rw [← HK.out] at hleast
  have hkN : k < N := by rw [HK.out]; exact (lsS_spec _ N hN1).1
  rw [(HCF.out k hkN).1, (HCF.out k hkN).2] at hleast
  obtain ⟨nd, hnd⟩ : ∃ nd, nd = - dF W H h (cl W k) := ⟨_, rfl⟩
  rw [← hnd] at hleast
  clear hnd
  have HLE := Lib.hid hleast
  clear hleast hcf hrd OL hE
  go_wp2_with fail
  rw [← hN]
  refine HLE.out.mono ?_
  rintro e w4 ⟨hb, rfl⟩
  have hcl := cl_lt (by omega : W ≤ 12) (by omega : H ≤ 12) (show k < W * H by rw [← hN]; exact hkN)
  obtain ⟨⟨x, y⟩, hxy⟩ : ∃ q, cl W k = q := ⟨_, rfl⟩
  rw [hxy] at hcl HZ ⊢
  obtain ⟨hx, hy⟩ := hcl
  dsimp only at hx hy ⊢
  have X8 := Bx.new w4 #[.int .i8 (x : Int), .int .i8 (y : Int)] 40
  have hz4 := (Z3.below hb).lt
  replace hL := (hL.next hb).next (al (Below.refl w4.heap.size w4) (.cells #[.int .i8 (x : Int), .int .i8 (y : Int)] 40))
  replace Z2 := (Z2.below hb).alloc (.cells #[.int .i8 (x : Int), .int .i8 (y : Int)] 40)
  replace Z3 := (Z3.below hb).alloc (.cells #[.int .i8 (x : Int), .int .i8 (y : Int)] 40)
  replace X6 := (X6.below hb).alloc (.cells #[.int .i8 (x : Int), .int .i8 (y : Int)] 40)
  replace B := al (nxt B hb) (.cells #[.int .i8 (x : Int), .int .i8 (y : Int)] 40)
  clear hb
  have W4 : ∃ W4 : World, W4 = w4.alloc (.cells #[.int .i8 (x : Int), .int .i8 (y : Int)] 40) := ⟨_, rfl⟩
  clear HLE HCF hxy
  go_upto_region 5 with fail
  obtain ⟨W4, hW4⟩ := W4
  rw [← hW4] at Z2 Z3 X6 X8 B hL ⊢
  clear hW4
  have cp := X6.cell 0
  have c80 := X8.cell 0
  have c81 := X8.cell 1
  simp only [List.getElem?_toArray, List.getElem?_cons_zero, List.getElem?_cons_succ] at cp c80 c81
  go_wp2_with fail
  refine (low_any W H x y p h _ _ hW hH hx hy HH.out hL.1).mono ?_
  rintro e w5 ⟨hb, rfl⟩
  have hd : htP h (x, y) - htP h (lowP W H h (x, y)) = dF W H h (x, y) := rfl
  rw [hd]
  obtain ⟨⟨px, py⟩, hq⟩ : ∃ q, lowP W H h (x, y) = q := ⟨_, rfl⟩
  rw [hq] at HZ ⊢
  generalize dF W H h (x, y) = d at HZ ⊢
  dsimp only [cellA] at HZ ⊢
  have hz5 := (Z3.below hb).lt
  have X10 := Bx.new w5 #[.int .i8 (px : Int), .int .i8 (py : Int)] 40
  replace Z2 := (Z2.below hb).alloc (.cells #[.int .i8 (px : Int), .int .i8 (py : Int)] 40)
  replace Z3 := (Z3.below hb).alloc (.cells #[.int .i8 (px : Int), .int .i8 (py : Int)] 40)
  replace X8 := (X8.below hb).alloc (.cells #[.int .i8 (px : Int), .int .i8 (py : Int)] 40)
  replace B := al (nxt B hb) (.cells #[.int .i8 (px : Int), .int .i8 (py : Int)] 40)
  clear hb
  have W5 : ∃ W5 : World, W5 = w5.alloc (.cells #[.int .i8 (px : Int), .int .i8 (py : Int)] 40) := ⟨_, rfl⟩
  clear hd hq cp c80 c81 hL X6
  go_upto_region 6 with fail
  obtain ⟨W5, hW5⟩ := W5
  rw [← hW5] at Z2 Z3 X8 X10 B ⊢
  clear hW5
  have f20 := Z2.frozen 0
  have f21 := Z2.frozen 1
  have f30 := Z3.frozen 0
  have f31 := Z3.frozen 1
  have s20 := Z2.cell 0
  have s21 := Z2.cell 1
  have s30 := Z3.cell 0
  have s31 := Z3.cell 1
  simp only [List.getElem?_toArray, List.getElem?_cons_zero, List.getElem?_cons_succ] at s20 s21 s30 s31
  have hz3 := Z3.lt
  by_cases hd0 : d = 0
  · obtain ⟨rfl, rfl, rfl, rfl, rfl, rfl⟩ : p0 = 0 ∧ q0 = 0 ∧ p1 = 0 ∧ q1 = 0 ∧ z2 = 0 ∧ z3 = 6 := by rcases HZ.out with k | k; exact k.2; exact absurd hd0 k.1
    subst hd0
    clear HZ
    go_wp2
    have Y2 := (((Z2.set 0 (.int .i8 0)).set 1 (.int .i8 0)).other (g := w.heap.size + 1 + 1) (o := 0) (.int .i8 0) (by omega)).other (g := w.heap.size + 1 + 1) (o := 1) (.int .i8 0) (by omega)
    have Y3 := (((Z3.other (g := w.heap.size + 1) (o := 0) (.int .i8 0) (by omega)).other (g := w.heap.size + 1) (o := 1) (.int .i8 0) (by omega)).set 0 (.int .i8 0)).set 1 (.int .i8 0)
    have q20 := Y2.cell 0
    have q21 := Y2.cell 1
    have q30 := Y3.cell 0
    have q31 := Y3.cell 1
    simp at q20 q21 q30 q31
    exact bodyPost_ret (v := .tuple #[.agg #[.int .i8 0, .int .i8 0], .agg #[.int .i8 0, .int .i8 0], .int .i64 0, .int .i64 6]) (by simp [results, Try.results49, go_sem, q20, q21, q30, q31]) rfl ⟨((((B.setCell (p := ⟨w.heap.size + 1, 0, none⟩) (by show w.heap.size ≤ w.heap.size + 1; omega) (.int .i8 0)).setCell (p := ⟨w.heap.size + 1, 1, none⟩) (by show w.heap.size ≤ w.heap.size + 1; omega) (.int .i8 0)).setCell (p := ⟨w.heap.size + 1 + 1, 0, none⟩) (by show w.heap.size ≤ w.heap.size + 1 + 1; omega) (.int .i8 0)).setCell (p := ⟨w.heap.size + 1 + 1, 1, none⟩) (by show w.heap.size ≤ w.heap.size + 1 + 1; omega) (.int .i8 0)), rfl⟩
  · obtain ⟨rfl, rfl, rfl, rfl, rfl, rfl⟩ : p0 = (x : Int) ∧ q0 = (y : Int) ∧ p1 = (px : Int) ∧ q1 = (py : Int) ∧ z2 = d ∧ z3 = 0 := by rcases HZ.out with k | k; exact absurd k.1 hd0; exact k.2
    have hdb : (z2 == 0) = false := by simpa using hd0
    clear HZ
    have c80 := X8.cell 0
    have c81 := X8.cell 1
    have c10 := X10.cell 0
    have c11 := X10.cell 1
    simp only [List.getElem?_toArray, List.getElem?_cons_zero, List.getElem?_cons_succ] at c80 c81 c10 c11
    go_upto_region 8 with fail
    refine wp_region_held_drew (S := (fun w' : World => w'.cell? ⟨w4.heap.size, 0, none⟩ = some (.int .i8 (x : Int)) ∧ w'.cell? ⟨w4.heap.size, 1, none⟩ = some (.int .i8 (y : Int)) ∧ w'.cell? ⟨w5.heap.size, 0, none⟩ = some (.int .i8 (px : Int)) ∧ w'.cell? ⟨w5.heap.size, 1, none⟩ = some (.int .i8 (py : Int)))) (by kernel_rfl) ⟨c80, c81, c10, c11⟩ (fun hHeld => ?_)
    refine wpAnyH_take (i := 0) (oi := _) (v := ?_) rfl (by kernel_rfl) (by kernel_rfl) (by kernel_rfl) (fun _ _ _ h => h) (Or.inl ⟨by kernel_rfl, ?_⟩) (by assumption) ?_
    rotate_left
    · intro w hSw; (try dsimp only at hSw); go_simp; first | done | with_reducible rfl
    try simp only [List.getElem_toArray, List.getElem_cons_zero, List.getElem_cons_succ, Act.put, List.setIfInBounds_toArray, List.set_cons_zero, List.set_cons_succ]
    refine wpAnyH_take (i := 1) (oi := _) (v := ?_) rfl (by kernel_rfl) (by kernel_rfl) (by kernel_rfl) (fun _ _ _ h => h) (Or.inl ⟨by kernel_rfl, ?_⟩) (by assumption) ?_
    rotate_left
    · intro w hSw; (try dsimp only at hSw); go_simp; first | done | with_reducible rfl
    try simp only [List.getElem_toArray, List.getElem_cons_zero, List.getElem_cons_succ, Act.put, List.setIfInBounds_toArray, List.set_cons_zero, List.set_cons_succ]
    refine wpAnyH_take (i := 2) (oi := _) (v := ?_) rfl (by kernel_rfl) (by kernel_rfl) (by kernel_rfl) (fun _ _ _ h => h) (Or.inl ⟨by kernel_rfl, ?_⟩) (by assumption) ?_
    rotate_left
    · intro w hSw; (try dsimp only at hSw); go_simp; first | done | with_reducible rfl
    try simp only [List.getElem_toArray, List.getElem_cons_zero, List.getElem_cons_succ, Act.put, List.setIfInBounds_toArray, List.set_cons_zero, List.set_cons_succ]
    replace Z2 := Z2.drew
    replace Z3 := Z3.drew
    replace X8 := X8.drew
    replace X10 := X10.drew
    replace B := B.drew
    clear f20 f21 f30 f31 s20 s21 s30 s31 c80 c81 c10 c11
    generalize World.drew _ = wd at Z2 Z3 X8 X10 B hHeld ⊢
    have hz3 := Z3.lt
    have f20 := Z2.frozen 0
    have f21 := Z2.frozen 1
    have s20 := Z2.cell 0
    have s21 := Z2.cell 1
    simp only [List.getElem?_toArray, List.getElem?_cons_zero, List.getElem?_cons_succ] at s20 s21
    have Z2' := (Z2.set 0 (.int .i8 (x : Int))).set 1 (.int .i8 (y : Int))
    have Z3' := (Z3.other (g := w.heap.size + 1) (o := 0) (.int .i8 (x : Int)) (by omega)).other (g := w.heap.size + 1) (o := 1) (.int .i8 (y : Int)) (by omega)
    have X8' := (X8.other (g := w.heap.size + 1) (o := 0) (.int .i8 (x : Int)) (by omega)).other (g := w.heap.size + 1) (o := 1) (.int .i8 (y : Int)) (by omega)
    have X10' := (X10.other (g := w.heap.size + 1) (o := 0) (.int .i8 (x : Int)) (by omega)).other (g := w.heap.size + 1) (o := 1) (.int .i8 (y : Int)) (by omega)
    have B' := (B.setCell (p := ⟨w.heap.size + 1, 0, none⟩) (by show w.heap.size ≤ w.heap.size + 1; omega) (.int .i8 (x : Int))).setCell (p := ⟨w.heap.size + 1, 1, none⟩) (by show w.heap.size ≤ w.heap.size + 1; omega) (.int .i8 (y : Int))
    refine wpAnyH_ready (rs := [3]) (by kernel_rfl) (by simp) ?_
    refine AllReadyH.cons (o := _) rfl (fun K hK => ?_) AllReadyH.nil
    go_simp
    refine hK.out _ _ ⟨X8'.cell 0, X8'.cell 1, X10'.cell 0, X10'.cell 1⟩ (fun hHeld => ?_)
    clear hK K
    try simp only [List.getElem_toArray, List.getElem_cons_zero, List.getElem_cons_succ, Act.put, List.setIfInBounds_toArray, List.set_cons_zero, List.set_cons_succ]
    obtain ⟨we, hwe⟩ : ∃ we : World, we = (wd.setCell ⟨w.heap.size + 1, 0, none⟩ (.int .i8 (x : Int))).setCell ⟨w.heap.size + 1, 1, none⟩ (.int .i8 (y : Int)) := ⟨_, rfl⟩
    rw [← hwe] at Z2' Z3' X8' X10' B' hHeld ⊢
    clear hwe f20 f21 s20 s21 Z2 Z3 X8 X10 B
    have f30 := Z3'.frozen 0
    have f31 := Z3'.frozen 1
    have s30 := Z3'.cell 0
    have s31 := Z3'.cell 1
    simp only [List.getElem?_toArray, List.getElem?_cons_zero, List.getElem?_cons_succ] at s30 s31
    have X8q := (X8'.other (g := w.heap.size + 1 + 1) (o := 0) (.int .i8 (px : Int)) (by omega)).other (g := w.heap.size + 1 + 1) (o := 1) (.int .i8 (py : Int)) (by omega)
    have X10q := (X10'.other (g := w.heap.size + 1 + 1) (o := 0) (.int .i8 (px : Int)) (by omega)).other (g := w.heap.size + 1 + 1) (o := 1) (.int .i8 (py : Int)) (by omega)
    have Y2 := (Z2'.other (g := w.heap.size + 1 + 1) (o := 0) (.int .i8 (px : Int)) (by omega)).other (g := w.heap.size + 1 + 1) (o := 1) (.int .i8 (py : Int)) (by omega)
    have Y3 := (Z3'.set 0 (.int .i8 (px : Int))).set 1 (.int .i8 (py : Int))
    refine wpAnyH_ready (rs := [4]) (by kernel_rfl) (by simp) ?_
    refine AllReadyH.cons (o := _) rfl (fun K hK => ?_) AllReadyH.nil
    go_simp
    refine hK.out _ _ ⟨X8q.cell 0, X8q.cell 1, X10q.cell 0, X10q.cell 1⟩ (fun hHeld => ?_)
    clear hK K
    try simp only [List.getElem_toArray, List.getElem_cons_zero, List.getElem_cons_succ, Act.put, List.setIfInBounds_toArray, List.set_cons_zero, List.set_cons_succ]
    refine wpAnyH_take (i := 5) (oi := _) (v := ?_) rfl (by kernel_rfl) (by kernel_rfl) (by kernel_rfl) (fun _ _ _ h => h) (Or.inl ⟨by kernel_rfl, ?_⟩) (by assumption) ?_
    rotate_left
    · intro w hSw; (try dsimp only at hSw); go_simp; first | done | with_reducible rfl
    try simp only [List.getElem_toArray, List.getElem_cons_zero, List.getElem_cons_succ, Act.put, List.setIfInBounds_toArray, List.set_cons_zero, List.set_cons_succ]
    refine wpAnyH_take (i := 6) (oi := _) (v := ?_) rfl (by kernel_rfl) (by kernel_rfl) (by kernel_rfl) (fun _ _ _ h => h) (Or.inl ⟨by kernel_rfl, ?_⟩) (by assumption) ?_
    rotate_left
    · intro w hSw; (try dsimp only at hSw); go_simp; first | done | with_reducible rfl
    try simp only [List.getElem_toArray, List.getElem_cons_zero, List.getElem_cons_succ, Act.put, List.setIfInBounds_toArray, List.set_cons_zero, List.set_cons_succ]
    refine wpAnyH_done (by kernel_rfl) ?_ _
    have q20 := Y2.cell 0
    have q21 := Y2.cell 1
    have q30 := Y3.cell 0
    have q31 := Y3.cell 1
    simp at q20 q21 q30 q31
    go_wp2
    exact bodyPost_ret (v := .tuple #[.agg #[.int .i8 (x : Int), .int .i8 (y : Int)], .agg #[.int .i8 (px : Int), .int .i8 (py : Int)], .int .i64 z2, .int .i64 0]) (by simp [results, Try.results49, go_sem, q20, q21, q30, q31]) rfl ⟨(B'.setCell (p := ⟨w.heap.size + 1 + 1, 0, none⟩) (by show w.heap.size ≤ w.heap.size + 1 + 1; omega) (.int .i8 (px : Int))).setCell (p := ⟨w.heap.size + 1 + 1, 1, none⟩) (by show w.heap.size ≤ w.heap.size + 1 + 1; omega) (.int .i8 (py : Int)), rfl⟩

end steepestFall
end Go.Proofs.Ytegnhpanlbfmdaa
