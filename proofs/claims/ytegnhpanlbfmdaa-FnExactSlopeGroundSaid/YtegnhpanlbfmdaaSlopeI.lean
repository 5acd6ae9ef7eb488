/-
  Both sides of SlopeGround answer the same. Conditions stand at each.
-/
import Derived.Test.YtegnhpanlbfmdaaRows
import Derived.Test.YtegnhpanlbfmdaaSlopeS
import Derived.Test.YtegnhpanlbfmdaaDrawR
import Derived.Deep.Cut
import Derived.Deep.RegionHeld3
namespace Go.Proofs.Ytegnhpanlbfmdaa
open Go Go.ChangeShapes Go.WideShapes Go.ChangeAt Go.RowKit Go.Shelf
set_option linter.unusedVariables false
set_option linter.unusedSimpArgs false
set_option maxRecDepth 100000
set_option maxHeartbeats 4000000

attribute [local go_sem] Oper.semAt_some
namespace slopeGround
theorem impl_range (K0 K1 F : Int) (g n : Nat) (c : Nat → Int) (w : World) (hA : Ac w g n c) (hz : ¬ ((1 ≤ K0 ∧ K0 ≤ 9) ∧ (1 ≤ K1 ∧ K1 ≤ 9) ∧ (0 ≤ F ∧ F ≤ 200))) :
    Calls Try.prog 65 #[.int .i64 K0, .int .i64 K1, (.slice (some ⟨g, 0, none⟩) n n), .int .i64 F] w fun e w' => Below w.heap.size w w' ∧ ∃ v, e = .returned (.tuple #[.agg (gV 0 0 (fun _ => 0) v), .int .i64 2]) ∧ HasSlice .i8 2 w' w.heap.size v 0 (fun _ => 0) := by
  have HZ := Lib.hid hz
  clear hz
  have X6 := (((Bx.new w #[(.slice (some ⟨g, 0, none⟩) n n)] 31).alloc (.cells #[.int .i64 F] 2)).alloc (.cells Try.zeroCells33 33)).alloc (.cells #[.int .i64 0] 2)
  have X7 := ((Bx.newAt (w.alloc (.cells #[(.slice (some ⟨g, 0, none⟩) n n)] 31)) (w.heap.size + 1) #[.int .i64 F] 2 (by simp)).alloc (.cells Try.zeroCells33 33)).alloc (.cells #[.int .i64 0] 2)
  have X8 := (Bx.newAt ((w.alloc (.cells #[(.slice (some ⟨g, 0, none⟩) n n)] 31)).alloc (.cells #[.int .i64 F] 2)) (w.heap.size + 1 + 1) Try.zeroCells33 33 (by simp)).alloc (.cells #[.int .i64 0] 2)
  have X9 := Bx.newAt (((w.alloc (.cells #[(.slice (some ⟨g, 0, none⟩) n n)] 31)).alloc (.cells #[.int .i64 F] 2)).alloc (.cells Try.zeroCells33 33)) (w.heap.size + 1 + 1 + 1) #[.int .i64 0] 2 (by simp)
  have B := al (al (al (al (Below.refl w.heap.size w) (.cells #[(.slice (some ⟨g, 0, none⟩) n n)] 31)) (.cells #[.int .i64 F] 2)) (.cells Try.zeroCells33 33)) (.cells #[.int .i64 0] 2)
  replace hA := (((hA.alloc (.cells #[(.slice (some ⟨g, 0, none⟩) n n)] 31)).alloc (.cells #[.int .i64 F] 2)).alloc (.cells Try.zeroCells33 33)).alloc (.cells #[.int .i64 0] 2)
  go_enter Try.func65, Try.ntmps65
  go_upto_region 1 with fail
  obtain ⟨W0, hW0⟩ : ∃ W0 : World, W0 = (((w.alloc (.cells #[(.slice (some ⟨g, 0, none⟩) n n)] 31)).alloc (.cells #[.int .i64 F] 2)).alloc (.cells Try.zeroCells33 33)).alloc (.cells #[.int .i64 0] 2) := ⟨_, rfl⟩
  rw [← hW0] at X6 X7 X8 X9 B hA ⊢
  clear hW0
  clear hA X6
  have hz9 := X9.lt
  have c7 := X7.cell 0
  simp only [List.getElem?_toArray, List.getElem?_cons_zero] at c7
  go_wp2_with fail
  by_cases h2 : 0 ≤ F ∧ F ≤ 200
  · refine (isRise_any F true _ ⟨fun _ => h2, fun _ => rfl⟩).mono ?_
    rintro e w1 ⟨rfl, rfl⟩
    have H2 := Lib.hid h2
    clear h2
    go_wp2_with fail
    by_cases h0 : 1 ≤ K0 ∧ K0 ≤ 9
    · refine (isExtent_any K0 true _ ⟨fun _ => h0, fun _ => rfl⟩).mono ?_
      rintro e w1 ⟨rfl, rfl⟩
      have H0 := Lib.hid h0
      clear h0
      go_wp2_with fail
      refine (isExtent_any K1 false _ ⟨(fun h => by cases h), fun h => absurd ⟨H0.out, h, H2.out⟩ HZ.out⟩).mono ?_
      rintro e w1 ⟨rfl, rfl⟩
      have c90 := (X9.setRowOther (g := w.heap.size + 1 + 1) Try.zeroCells33 (by omega)).cell 0
      have f90 := (X9.setRowOther (g := w.heap.size + 1 + 1) Try.zeroCells33 (by omega)).frozen 0
      simp only [List.getElem?_toArray, List.getElem?_cons_zero] at c90
      go_wp2_with (refine wpList_store_box X8 rfl _ _ _ rfl rfl rfl infoZ rfl zeroOne ?_)
      have Y8 := ((X8.setRow Try.zeroCells33).other (g := w.heap.size + 1 + 1 + 1) (o := 0) (.int .i64 2) (by omega)).cast zeroG
      have Y9 := (X9.setRowOther (g := w.heap.size + 1 + 1) Try.zeroCells33 (by omega)).set 0 (.int .i64 2)
      have y90 := Y9.cell 0
      simp at y90
      exact bodyPost_ret (results_row_cell Try.results65 _ _ _ _ _ _ _ Y8 rfl Try.underlying33 rfl (infoGv _ _ _ _) (.int .i64 2) rfl (by simp [go_sem, y90])) rfl ⟨(setRow_below B (by omega) _).setCell (p := ⟨w.heap.size + 1 + 1 + 1, 0, none⟩) (by show w.heap.size ≤ w.heap.size + 1 + 1 + 1; omega) _, _, rfl, hasNil _ _⟩
    · refine (isExtent_any K0 false _ ⟨(fun h => by cases h), fun h => absurd h h0⟩).mono ?_
      rintro e w1 ⟨rfl, rfl⟩
      clear h0
      have c90 := (X9.setRowOther (g := w.heap.size + 1 + 1) Try.zeroCells33 (by omega)).cell 0
      have f90 := (X9.setRowOther (g := w.heap.size + 1 + 1) Try.zeroCells33 (by omega)).frozen 0
      simp only [List.getElem?_toArray, List.getElem?_cons_zero] at c90
      go_wp2_with (refine wpList_store_box X8 rfl _ _ _ rfl rfl rfl infoZ rfl zeroOne ?_)
      have Y8 := ((X8.setRow Try.zeroCells33).other (g := w.heap.size + 1 + 1 + 1) (o := 0) (.int .i64 2) (by omega)).cast zeroG
      have Y9 := (X9.setRowOther (g := w.heap.size + 1 + 1) Try.zeroCells33 (by omega)).set 0 (.int .i64 2)
      have y90 := Y9.cell 0
      simp at y90
      exact bodyPost_ret (results_row_cell Try.results65 _ _ _ _ _ _ _ Y8 rfl Try.underlying33 rfl (infoGv _ _ _ _) (.int .i64 2) rfl (by simp [go_sem, y90])) rfl ⟨(setRow_below B (by omega) _).setCell (p := ⟨w.heap.size + 1 + 1 + 1, 0, none⟩) (by show w.heap.size ≤ w.heap.size + 1 + 1 + 1; omega) _, _, rfl, hasNil _ _⟩
  · refine (isRise_any F false _ ⟨(fun h => by cases h), fun h => absurd h h2⟩).mono ?_
    rintro e w1 ⟨rfl, rfl⟩
    clear h2
    have c90 := (X9.setRowOther (g := w.heap.size + 1 + 1) Try.zeroCells33 (by omega)).cell 0
    have f90 := (X9.setRowOther (g := w.heap.size + 1 + 1) Try.zeroCells33 (by omega)).frozen 0
    simp only [List.getElem?_toArray, List.getElem?_cons_zero] at c90
    go_wp2_with (refine wpList_store_box X8 rfl _ _ _ rfl rfl rfl infoZ rfl zeroOne ?_)
    have Y8 := ((X8.setRow Try.zeroCells33).other (g := w.heap.size + 1 + 1 + 1) (o := 0) (.int .i64 2) (by omega)).cast zeroG
    have Y9 := (X9.setRowOther (g := w.heap.size + 1 + 1) Try.zeroCells33 (by omega)).set 0 (.int .i64 2)
    have y90 := Y9.cell 0
    simp at y90
    exact bodyPost_ret (results_row_cell Try.results65 _ _ _ _ _ _ _ Y8 rfl Try.underlying33 rfl (infoGv _ _ _ _) (.int .i64 2) rfl (by simp [go_sem, y90])) rfl ⟨(setRow_below B (by omega) _).setCell (p := ⟨w.heap.size + 1 + 1 + 1, 0, none⟩) (by show w.heap.size ≤ w.heap.size + 1 + 1 + 1; omega) _, _, rfl, hasNil _ _⟩
theorem steps_any (x y p q : Int) (w : World) (hx : 0 ≤ x ∧ x ≤ 8) (hy : 0 ≤ y ∧ y ≤ 8) (hp : 0 ≤ p ∧ p ≤ 8) (hq : 0 ≤ q ∧ q ≤ 8) :
    Calls Try.prog 154 #[.agg #[.int .i8 x, .int .i8 y], .agg #[.int .i8 p, .int .i8 q]] w fun e w' => e = .returned (.int .i64 (ab (x - p) + ab (y - q))) ∧ Below w.heap.size w w' := by
  have B := al (al (Below.refl w.heap.size w) (.cells #[.int .i8 x, .int .i8 y] 40)) (.cells #[.int .i8 p, .int .i8 q] 40)
  have e1 : IntKind.i8.wrap (x - p) = x - p := IntWalk.i8_in _ (by omega)
  have e2 : IntKind.i8.wrap (p - x) = p - x := IntWalk.i8_in _ (by omega)
  have e3 : IntKind.i8.wrap (y - q) = y - q := IntWalk.i8_in _ (by omega)
  have e4 : IntKind.i8.wrap (q - y) = q - y := IntWalk.i8_in _ (by omega)
  by_cases hxp : x < p <;> by_cases hyq : y < q
  · have HM := Lib.hid (show ab (x - p) + ab (y - q) = (p - x) + (q - y) by unfold ab; rw [if_pos (by omega), if_pos (by omega)]; omega)
    have d1 : x - p < p - x := by omega
    have d2 : y - q < q - y := by omega
    have d3 : max (x - p) (p - x) = p - x := by omega
    have d4 : max (y - q) (q - y) = q - y := by omega
    have e5 : IntKind.i8.wrap (p - x + (q - y)) = p - x + (q - y) := IntWalk.i8_in _ (by omega)
    go_enter Try.func154, Try.ntmps154
    go_wp2_with fail
    go_ret
    exact ⟨by rw [HM.out]; rfl, B⟩
  · have HM := Lib.hid (show ab (x - p) + ab (y - q) = (p - x) + (y - q) by unfold ab; rw [if_pos (by omega), if_neg (by omega)]; omega)
    have d1 : x - p < p - x := by omega
    have d2 : ¬ y - q < q - y := by omega
    have d3 : max (x - p) (p - x) = p - x := by omega
    have d4 : max (y - q) (q - y) = y - q := by omega
    have e5 : IntKind.i8.wrap (p - x + (y - q)) = p - x + (y - q) := IntWalk.i8_in _ (by omega)
    go_enter Try.func154, Try.ntmps154
    go_wp2_with fail
    go_ret
    exact ⟨by rw [HM.out]; rfl, B⟩
  · have HM := Lib.hid (show ab (x - p) + ab (y - q) = (x - p) + (q - y) by unfold ab; rw [if_neg (by omega), if_pos (by omega)]; omega)
    have d1 : ¬ x - p < p - x := by omega
    have d2 : y - q < q - y := by omega
    have d3 : max (x - p) (p - x) = x - p := by omega
    have d4 : max (y - q) (q - y) = q - y := by omega
    have e5 : IntKind.i8.wrap (x - p + (q - y)) = x - p + (q - y) := IntWalk.i8_in _ (by omega)
    go_enter Try.func154, Try.ntmps154
    go_wp2_with fail
    go_ret
    exact ⟨by rw [HM.out]; rfl, B⟩
  · have HM := Lib.hid (show ab (x - p) + ab (y - q) = (x - p) + (y - q) by unfold ab; rw [if_neg (by omega), if_neg (by omega)])
    have d1 : ¬ x - p < p - x := by omega
    have d2 : ¬ y - q < q - y := by omega
    have d3 : max (x - p) (p - x) = x - p := by omega
    have d4 : max (y - q) (q - y) = y - q := by omega
    have e5 : IntKind.i8.wrap (x - p + (y - q)) = x - p + (y - q) := IntWalk.i8_in _ (by omega)
    go_enter Try.func154, Try.ntmps154
    go_wp2_with fail
    go_ret
    exact ⟨by rw [HM.out]; rfl, B⟩
theorem near_any (W H : Nat) (x y n b : Nat) (c : Nat → Int) (w : World) (hW : W ≤ 9) (hH : H ≤ 9) (hx : x < W) (hy : y < H) (hg : gGls W H c n) (k : Nat) (hk : k < n) (hB : Bx w b #[.int .i8 (x : Int), .int .i8 (y : Int)] 40) :
    Calls Try.prog 153 #[.agg #[.int .i8 (c (2 * k)), .int .i8 (c (2 * k + 1))], .pointer (some ⟨b, 0, none⟩)] w fun e w' => e = .returned (.int .i64 (ds c x y k)) ∧ Below w.heap.size w w' := by
  obtain ⟨⟨⟨g1, g2⟩, g3, g4⟩, _⟩ := hg k hk
  have hd : ds c x y k = ab ((x : Int) - c (2 * k)) + ab ((y : Int) - c (2 * k + 1)) := rfl
  have HD := Lib.hid hd
  have B := al (Below.refl w.heap.size w) (.cells #[.int .i8 (c (2 * k)), .int .i8 (c (2 * k + 1))] 40)
  have X1 := hB.alloc (.cells #[.int .i8 (c (2 * k)), .int .i8 (c (2 * k + 1))] 40)
  have c0 := X1.cell 0
  have c1 := X1.cell 1
  simp only [List.getElem?_toArray, List.getElem?_cons_zero, List.getElem?_cons_succ] at c0 c1
  generalize c (2 * k) = p at *
  generalize c (2 * k + 1) = q at *
  clear hd hg
  go_enter Try.func153, Try.ntmps153
  go_wp2_with fail
  refine (steps_any (x : Int) (y : Int) p q _ (by omega) (by omega) (by omega) (by omega)).mono ?_
  rintro e w1 ⟨rfl, hb⟩
  replace B := nxt B hb
  clear hb c0 c1
  go_wp2
  go_ret
  exact ⟨by rw [HD.out]; rfl, B⟩

theorem grown_row (W : World) (b : Nat) (cs : Array Value) : W.grownBy (W.setRow b cs) (some b) := ⟨rfl, rfl, rfl, by simp, fun k hk hne => setRow_other W b k cs (fun e => hne (by rw [e]))⟩
theorem Kpt_row {B b : Nat} {M : Nat → Prop} {W V : World} {cs cs' : Array Value} {t : TypeId} (h : Kpt B M W V) (hb : M b) (hX : Bx V b cs t) : Kpt B M W (V.setRow b cs') := h.grown (grown_row V b cs') (fun k e => by injection e with e; subst e; exact ⟨hb, .inr ⟨_, _, _, hX⟩⟩)
theorem impl_bad2 (W H : Nat) (F : Int) (g n : Nat) (c : Nat → Int) (w : World) (hc : ∀ j, -128 ≤ c j ∧ c j ≤ 127) (hm : n ≤ 1048576) (hA : Ac w g n c) (h0 : 1 ≤ W ∧ W ≤ 9) (h1 : 1 ≤ H ∧ H ≤ 9) (hF : 0 ≤ F ∧ F ≤ 200) (z : Int) (hz : (¬ GValid W H (fun _ => 0) n c ∧ z = 2) ∨ (GValid W H (fun _ => 0) n c ∧ n = 0 ∧ z = 6)) :
    Calls Try.prog 65 #[.int .i64 (W : Int), .int .i64 (H : Int), (.slice (some ⟨g, 0, none⟩) n n), .int .i64 F] w fun e w' => Below w.heap.size w w' ∧ ∃ v, e = .returned (.tuple #[.agg (gV 0 0 (fun _ => 0) v), .int .i64 z]) ∧ HasSlice .i8 2 w' w.heap.size v 0 (fun _ => 0) := by
  have HC := Lib.hid hc
  have HZ := Lib.hid hz
  clear hc hz
  have wW : IntKind.i8.wrap (W : Int) = (W : Int) := IntWalk.i8_in _ (by omega)
  have wH : IntKind.i8.wrap (H : Int) = (H : Int) := IntWalk.i8_in _ (by omega)
  have X6 := (((Bx.new w #[(.slice (some ⟨g, 0, none⟩) n n)] 31).alloc (.cells #[.int .i64 F] 2)).alloc (.cells Try.zeroCells33 33)).alloc (.cells #[.int .i64 0] 2)
  have X7 := ((Bx.newAt (w.alloc (.cells #[(.slice (some ⟨g, 0, none⟩) n n)] 31)) (w.heap.size + 1) #[.int .i64 F] 2 (by simp)).alloc (.cells Try.zeroCells33 33)).alloc (.cells #[.int .i64 0] 2)
  have X8 := (Bx.newAt ((w.alloc (.cells #[(.slice (some ⟨g, 0, none⟩) n n)] 31)).alloc (.cells #[.int .i64 F] 2)) (w.heap.size + 1 + 1) Try.zeroCells33 33 (by simp)).alloc (.cells #[.int .i64 0] 2)
  have X9 := Bx.newAt (((w.alloc (.cells #[(.slice (some ⟨g, 0, none⟩) n n)] 31)).alloc (.cells #[.int .i64 F] 2)).alloc (.cells Try.zeroCells33 33)) (w.heap.size + 1 + 1 + 1) #[.int .i64 0] 2 (by simp)
  have B := al (al (al (al (Below.refl w.heap.size w) (.cells #[(.slice (some ⟨g, 0, none⟩) n n)] 31)) (.cells #[.int .i64 F] 2)) (.cells Try.zeroCells33 33)) (.cells #[.int .i64 0] 2)
  replace hA := (((hA.alloc (.cells #[(.slice (some ⟨g, 0, none⟩) n n)] 31)).alloc (.cells #[.int .i64 F] 2)).alloc (.cells Try.zeroCells33 33)).alloc (.cells #[.int .i64 0] 2)
  go_enter Try.func65, Try.ntmps65
  go_upto_region 1 with fail
  obtain ⟨w1, hw1⟩ : ∃ w1 : World, w1 = (((w.alloc (.cells #[(.slice (some ⟨g, 0, none⟩) n n)] 31)).alloc (.cells #[.int .i64 F] 2)).alloc (.cells Try.zeroCells33 33)).alloc (.cells #[.int .i64 0] 2) := ⟨_, rfl⟩
  rw [← hw1] at X6 X7 X8 X9 B hA ⊢
  clear hw1
  have hz9 := X9.lt
  have c7 := X7.cell 0
  simp only [List.getElem?_toArray, List.getElem?_cons_zero] at c7
  go_wp2_with fail
  refine (isRise_any F true _ ⟨fun _ => hF, fun _ => rfl⟩).mono ?_
  rintro e w1' ⟨rfl, rfl⟩
  go_wp2_with fail
  refine (isExtent_any (W : Int) true _ ⟨fun _ => by omega, fun _ => rfl⟩).mono ?_
  rintro e w1' ⟨rfl, rfl⟩
  go_wp2_with fail
  refine (isExtent_any (H : Int) true _ ⟨fun _ => by omega, fun _ => rfl⟩).mono ?_
  rintro e w1' ⟨rfl, rfl⟩
  have X10 := Bx.new w1 #[.int .i8 (W : Int), .int .i8 (H : Int)] 114
  replace X6 := X6.alloc (.cells #[.int .i8 (W : Int), .int .i8 (H : Int)] 114)
  replace X8 := X8.alloc (.cells #[.int .i8 (W : Int), .int .i8 (H : Int)] 114)
  replace X9 := X9.alloc (.cells #[.int .i8 (W : Int), .int .i8 (H : Int)] 114)
  replace hA := hA.alloc (.cells #[.int .i8 (W : Int), .int .i8 (H : Int)] 114)
  replace B := al B (.cells #[.int .i8 (W : Int), .int .i8 (H : Int)] 114)
  have c6 := X6.cell 0
  have e0 := X10.cell 0
  have e1 := X10.cell 1
  simp only [List.getElem?_toArray, List.getElem?_cons_zero, List.getElem?_cons_succ] at c6 e0 e1
  go_wp2_with fail
  refine (areGullies_any W H _ n n _ c _ (by omega) (by omega) HC.out hm (Nat.le_refl _) hA.rd).mono ?_
  rintro e w2 ⟨hb, ⟨hv, rfl⟩ | ⟨hv, rfl⟩⟩
  · obtain ⟨rfl, rfl⟩ : n = 0 ∧ z = 6 := by
      rcases HZ.out with q | q
      · exact absurd (gvalid0.2 ⟨⟨by omega, by omega, hv.1⟩, hv.2⟩) q.1
      · exact q.2
    replace X6 := X6.below hb
    replace X8 := X8.below hb
    replace X9 := X9.below hb
    replace B := nxt B hb
    clear hb hv HZ c6 e0 e1 X10 hA c7 X7
    have c6 := X6.cell 0
    simp only [List.getElem?_toArray, List.getElem?_cons_zero] at c6
    have hz92 := X9.lt
    have c90 := (X9.setRowOther (g := w.heap.size + 1 + 1) Try.zeroCells33 (by omega)).cell 0
    have f90 := (X9.setRowOther (g := w.heap.size + 1 + 1) Try.zeroCells33 (by omega)).frozen 0
    simp only [List.getElem?_toArray, List.getElem?_cons_zero] at c90
    go_wp2_with (refine wpList_store_box X8 rfl _ _ _ rfl rfl rfl infoZ rfl zeroOne ?_)
    have Y8 := ((X8.setRow Try.zeroCells33).other (g := w.heap.size + 1 + 1 + 1) (o := 0) (.int .i64 6) (by omega)).cast zeroG
    have Y9 := (X9.setRowOther (g := w.heap.size + 1 + 1) Try.zeroCells33 (by omega)).set 0 (.int .i64 6)
    have y90 := Y9.cell 0
    simp at y90
    exact bodyPost_ret (results_row_cell Try.results65 _ _ _ _ _ _ _ Y8 rfl Try.underlying33 rfl (infoGv _ _ _ _) (.int .i64 6) rfl (by simp [go_sem, y90])) rfl ⟨(setRow_below B (by omega) _).setCell (p := ⟨w.heap.size + 1 + 1 + 1, 0, none⟩) (by show w.heap.size ≤ w.heap.size + 1 + 1 + 1; omega) _, _, rfl, hasNil _ _⟩
  · obtain rfl : z = 2 := by
      rcases HZ.out with q | q
      · exact q.2
      · exact absurd ⟨q.1.1.2.2, q.1.2.2⟩ hv
    replace X8 := X8.below hb
    replace X9 := X9.below hb
    replace B := nxt B hb
    clear hb hv HZ c6 e0 e1 X10 hA c7 X7 X6
    have hz92 := X9.lt
    have c90 := (X9.setRowOther (g := w.heap.size + 1 + 1) Try.zeroCells33 (by omega)).cell 0
    have f90 := (X9.setRowOther (g := w.heap.size + 1 + 1) Try.zeroCells33 (by omega)).frozen 0
    simp only [List.getElem?_toArray, List.getElem?_cons_zero] at c90
    go_wp2_with (refine wpList_store_box X8 rfl _ _ _ rfl rfl rfl infoZ rfl zeroOne ?_)
    have Y8 := ((X8.setRow Try.zeroCells33).other (g := w.heap.size + 1 + 1 + 1) (o := 0) (.int .i64 2) (by omega)).cast zeroG
    have Y9 := (X9.setRowOther (g := w.heap.size + 1 + 1) Try.zeroCells33 (by omega)).set 0 (.int .i64 2)
    have y90 := Y9.cell 0
    simp at y90
    exact bodyPost_ret (results_row_cell Try.results65 _ _ _ _ _ _ _ Y8 rfl Try.underlying33 rfl (infoGv _ _ _ _) (.int .i64 2) rfl (by simp [go_sem, y90])) rfl ⟨(setRow_below B (by omega) _).setCell (p := ⟨w.heap.size + 1 + 1 + 1, 0, none⟩) (by show w.heap.size ≤ w.heap.size + 1 + 1 + 1; omega) _, _, rfl, hasNil _ _⟩

end slopeGround
end Go.Proofs.Ytegnhpanlbfmdaa
