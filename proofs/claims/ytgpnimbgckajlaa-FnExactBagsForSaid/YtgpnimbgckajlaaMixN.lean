/-
  How much of each part an amount needs: the contract of impl.neededFor. Conditions stand at each.
-/
import Derived.Test.YtgpnimbgckajlaaRows
import Derived.Test.YtgpnimbgckajlaaMixI
import Derived.Test.YtgpnimbgckajlaaMixF
import Derived.Test.YtgpnimbgckajlaaHasN
namespace Go.Proofs.Ytgpnimbgckajlaa
open Go Go.ChangeShapes Go.WideShapes Go.ChangeAt Go.RowKit
set_option linter.unusedVariables false
set_option linter.unusedSimpArgs false
set_option maxRecDepth 100000
set_option maxHeartbeats 4000000
/-- the first parts, summed. -/
def sumK (m : Nat → Int) : Nat → Int
  | 0 => 0
  | k + 1 => sumK m k + m k
theorem sumK_three (m : Nat → Int) : sumK m 3 = sumM m := by show 0 + m 0 + m 1 + m 2 = _; unfold sumM; omega
theorem sumK_bd {m : Nat → Int} (h : MixOk m) : ∀ k, k ≤ 3 → 0 ≤ sumK m k ∧ sumK m k ≤ 300
  | 0, _ => by simp only [sumK]; omega
  | 1, _ => by have := h.bds; simp only [sumK]; omega
  | 2, _ => by have := h.bds; simp only [sumK]; omega
  | 3, _ => by have := h.bds; simp only [sumK]; omega
theorem first_bst (r : Nat → Int) {M : Int} (h : MaxAt r 3 M) : FirstAt r 3 M (bst (r 0) (r 1) (r 2)) := by
  obtain ⟨⟨i, hi, e⟩, hle⟩ := h
  have h3 := bst_lt (r 0) (r 1) (r 2)
  have h1 := bst_le r hi
  have h2 := hle _ h3
  have he : r (bst (r 0) (r 1) (r 2)) = M := by omega
  refine ⟨h3, he, fun j hj => ?_⟩
  have := bst_first r hj
  omega
theorem neededFor_any (m : Nat → Int) (n : Int) (w : World) (h16 : In16 m) (hm : MixOk m) (hn : 0 ≤ n ∧ n ≤ 5000) :
    Calls Try.prog 69 #[.agg #[.int .i16 (m 0), .int .i16 (m 1), .int .i16 (m 2)], .int .i64 n] w fun e w' => Below w.heap.size w w' ∧ e = .returned (.agg #[.int .i16 (needM m n 0), .int .i16 (needM m n 1), .int .i16 (needM m n 2)]) := by
  have HN := Lib.hid (fun W => numbersOf_any m W h16)
  have HM := Lib.hid hm
  have H16 := Lib.hid h16
  have X2 := (Bx.new w (mixC m) 44).alloc (.cells (mixC fun _ => 0) 44)
  have X4 := Bx.newAtI (w.alloc (.cells (mixC m) 44)) (w.heap.size + 1) (mixC fun _ => 0) 44 (by simp)
  have B := al (al (Below.refl w.heap.size w) (.cells (mixC m) 44)) (.cells (mixC fun _ => 0) 44)
  clear h16 hm
  go_enter Try.func69, Try.ntmps69
  go_wp2_with fail
  refine (HN.out _).mono ?_
  rintro e w1 ⟨hb, g, rfl, hg, HG⟩
  replace X2 := X2.below hb
  replace X4 := X4.below hb
  replace B := nxt B hb
  obtain ⟨b2, h2⟩ : ∃ b2, b2 = w.heap.size := ⟨_, rfl⟩
  have hb2 : w.heap.size ≤ b2 := by omega
  have hb4 : w.heap.size ≤ b2 + 1 := by omega
  rw [← h2] at X2 X4 ⊢
  clear hb h2 hg
  go_wp2
  go_loopw [5, 7, 17] (fun t5 t7 t17 wr => ∃ k : Nat, k ≤ 3 ∧ t17 = .int .i64 k ∧ t5 = .int .i64 (sumK m k) ∧ wr = w1) (fun t5 t7 t17 wr => 3 - (intOf t17).toNat)
  case atStart => exact ⟨0, by omega, rfl, rfl, rfl⟩
  case round =>
    obtain ⟨k, hk, rfl, rfl, rfl⟩ := hrel
    by_cases hlt : k < 3
    · have hki : (k : Int) < 3 := by omega
      have hk0 : (0 : Int) ≤ (k : Int) := by omega
      have c0 := HG.resAt hlt
      have hb1 := sumK_bd HM.out k hk
      have hb2' := sumK_bd HM.out (k + 1) (by omega)
      have hst : sumK m (k + 1) = sumK m k + m k := rfl
      obtain ⟨x, hx⟩ : ∃ x, x = m k := ⟨_, rfl⟩
      obtain ⟨y, hy⟩ : ∃ y, y = sumK m k := ⟨_, rfl⟩
      rw [← hx, ← hy] at hst
      rw [hst] at hb2'
      rw [← hy] at hb1 ⊢
      rw [← hx] at c0
      have HST := Lib.hid hst
      clear hst hx hy
      go_wp2
      exact ⟨⟨k + 1, by omega, by first | go_num | simp, by rw [HST.out], by first | rfl | trivial⟩, by simp [intOf]; omega⟩
    · obtain rfl : k = 3 := by omega
      rw [sumK_three]
      obtain ⟨-, -, -, hs0, hs1⟩ := HM.out.bds
      obtain ⟨s, hs⟩ : ∃ s, s = sumM m := ⟨_, rfl⟩
      rw [← hs] at hs0 hs1 ⊢
      have HS := Lib.hid hs
      clear hs
      obtain ⟨c0, c1, c2⟩ := X2.mix3
      have hl2 : b2 < wr.heap.size := X2.lt
      have hl4 : b2 + 1 < wr.heap.size := X4.lt
      have X8 := (Bx.newAtI wr wr.heap.size (mixC fun _ => 0) 44 rfl).alloc (.cells (resC fun _ => 0) 132)
      have X9 := Bx.newAtI (wr.alloc (.cells (mixC fun _ => 0) 44)) (wr.heap.size + 1) (resC fun _ => 0) 132 (by simp)
      replace X2 := (X2.alloc (.cells (mixC fun _ => 0) 44)).alloc (.cells (resC fun _ => 0) 132)
      replace X4 := (X4.alloc (.cells (mixC fun _ => 0) 44)).alloc (.cells (resC fun _ => 0) 132)
      replace B := al (al B (.cells (mixC fun _ => 0) 44)) (.cells (resC fun _ => 0) 132)
      obtain ⟨b8, h8⟩ : ∃ b8, b8 = wr.heap.size := ⟨_, rfl⟩
      have hb8 : w.heap.size ≤ b8 := by omega
      have hb9 : w.heap.size ≤ b8 + 1 := by omega
      go_wp2_with fail
      rw [← h8] at hl2 hl4 X8 X9 ⊢
      refine (HN.out _).mono ?_
      rintro e w2 ⟨hb, g', rfl, hg', HG'⟩
      replace X2 := X2.below hb
      replace X4 := X4.below hb
      replace X8 := X8.below hb
      replace X9 := X9.below hb
      replace B := nxt B hb
      have hg8 : b8 + 1 < g' := by simp at hg'; omega
      clear hb hg' h8 HG c0 c1 c2 HN
      go_wp2
      go_loopw [10, 11, 12, 29] (fun t10 t11 t12 t29 wr => ∃ k : Nat, k ≤ 3 ∧ t29 = .int .i64 k ∧ t10 = .int .i64 (lackK m n k) ∧ Below w.heap.size w wr ∧ Bx wr (b2 + 1) (mixC fun _ => 0) 44 ∧ Bx wr b8 (mixC fun j => if j < k then qL m n j else 0) 44 ∧ Bx wr (b8 + 1) (resC fun j => if j < k then rL m n j else 0) 132 ∧ Bx wr g' (resC m) 2) (fun t10 t11 t12 t29 wr => 3 - (intOf t29).toNat)
      case atStart => exact ⟨0, by omega, rfl, rfl, B, X4, X8.mixEq (fun j hj => by simp), X9.resEq (fun j hj => by simp), HG'⟩
      case round =>
        clear B X2 X4 X8 X9 HG'
        obtain ⟨k, hk, rfl, rfl, B, X4, X8, X9, HG'⟩ := hrel
        by_cases hlt : k < 3
        · have hki : (k : Int) < 3 := by omega
          have hk0 : (0 : Int) ≤ (k : Int) := by omega
          have c0 := HG'.resAt hlt
          have hbd := mix_bd HM.out hn hlt
          have hlk := lackK_bd HM.out hn k hk
          have hlk2 := lackK_bd HM.out hn (k + 1) (by omega)
          have hstep : lackK m n (k + 1) = lackK m n k - qL m n k := rfl
          obtain ⟨L, hL⟩ : ∃ L, L = lackK m n k := ⟨_, rfl⟩
          obtain ⟨q, hq⟩ : ∃ q, q = qL m n k := ⟨_, rfl⟩
          obtain ⟨r, hr⟩ : ∃ r, r = rL m n k := ⟨_, rfl⟩
          obtain ⟨x, hx⟩ : ∃ x, x = m k := ⟨_, rfl⟩
          obtain ⟨p, hp⟩ : ∃ p, p = n * m k := ⟨_, rfl⟩
          have e1 : n * x = p := by rw [hx]; exact hp.symm
          have e2 : Int.tdiv p s = q := by rw [Int.tdiv_eq_ediv_of_nonneg (by rw [hp]; exact hbd.1.1), hp, hq, HS.out]; rfl
          have e3 : p / s = q := by rw [hp, hq, HS.out]; rfl
          have e4 : Int.tmod p s = r := by rw [Int.tmod_eq_emod_of_nonneg (by rw [hp]; exact hbd.1.1), hp, hr, HS.out]; rfl
          have e5 : p % s = r := by rw [hp, hr, HS.out]; rfl
          rw [← hp, ← hq, ← hr] at hbd
          rw [hstep, ← hL, ← hq] at hlk2
          rw [← hL] at hlk
          rw [← hx] at c0
          have HE := Lib.hid (show lackK m n (k + 1) = L - q by rw [hstep, ← hL, ← hq])
          have HQ := Lib.hid hq
          have HRr := Lib.hid hr
          obtain ⟨⟨p0, p1⟩, ⟨q0, q1⟩, r0, r1⟩ := hbd
          rw [← HS.out] at r1
          have f1 : IntKind.i64.wrap p = p := IntWalk.i64_in _ (by omega)
          have f2 : wrap64 p = p := IntWalk.wrap64_in _ (by omega)
          have f3 : IntKind.i64.wrap q = q := IntWalk.i64_in _ (by omega)
          have f4 : wrap64 q = q := IntWalk.wrap64_in _ (by omega)
          have f5 : IntKind.i16.wrap q = q := IntWalk.i16_in _ (by omega)
          have f6 : IntKind.i64.wrap r = r := IntWalk.i64_in _ (by omega)
          have f7 : wrap64 r = r := IntWalk.wrap64_in _ (by omega)
          rw [← hL]
          clear hstep hL hq hr hp hx
          go_wp2
          refine wp_region_held_drew (S := (fun _ : World => True)) (by kernel_rfl) trivial (fun hHeld => ?_)
          replace B := B.drew
          obtain ⟨wq, hwq⟩ : ∃ wq, wr.drew = wq := ⟨_, rfl⟩
          replace X4 : Bx wr.drew (b2 + 1) (mixC fun _ => 0) 44 := X4
          replace X8 : Bx wr.drew b8 (mixC fun j => if j < k then qL m n j else 0) 44 := X8
          replace X9 : Bx wr.drew (b8 + 1) (resC fun j => if j < k then rL m n j else 0) 132 := X9
          replace HG' : Bx wr.drew g' (resC m) 2 := HG'
          rw [hwq] at B X4 X8 X9 HG' ⊢
          clear hwq c0
          have c5 := X8.mixAt hlt
          have c6 := X9.resAt hlt
          have z5 := X8.frozen k
          have z6 := X9.frozen k
          have hsz : ¬ s = 0 := by omega
          refine wpAnyH_take (i := 0) (oi := _) (v := ?_) rfl (by kernel_rfl) (by kernel_rfl) (by kernel_rfl) (fun _ _ _ h => h) (Or.inl ⟨by kernel_rfl, ?_⟩) (by assumption) ?_
          rotate_left
          · intro w hSw; (try dsimp only at hSw); go_simp; first | done | with_reducible rfl
          try simp only [List.getElem_toArray, List.getElem_cons_zero, List.getElem_cons_succ, Act.put, List.setIfInBounds_toArray, List.set_cons_zero, List.set_cons_succ]
          refine wpAnyH_take (i := 1) (oi := _) (v := ?_) rfl (by kernel_rfl) (by kernel_rfl) (by kernel_rfl) (fun _ _ _ h => h) (Or.inl ⟨by kernel_rfl, ?_⟩) (by assumption) ?_
          rotate_left
          · intro w hSw; (try dsimp only at hSw); go_simp; first | done | with_reducible rfl
          try simp only [List.getElem_toArray, List.getElem_cons_zero, List.getElem_cons_succ, Act.put, List.setIfInBounds_toArray, List.set_cons_zero, List.set_cons_succ]
          refine wpAnyH_take (i := 2) (oi := _) (v := ?_) rfl (by kernel_rfl) (by kernel_rfl) (by kernel_rfl) (fun _ _ _ h => h) (Or.inl ⟨by kernel_rfl, ?_⟩) (by assumption) ?_
          rotate_left
          · intro w hSw; (try dsimp only at hSw); go_simp; first | done | with_reducible rfl
          try simp only [List.getElem_toArray, List.getElem_cons_zero, List.getElem_cons_succ, Act.put, List.setIfInBounds_toArray, List.set_cons_zero, List.set_cons_succ]
          refine wpAnyH_take (i := 3) (oi := _) (v := ?_) rfl (by kernel_rfl) (by kernel_rfl) (by kernel_rfl) (fun _ _ _ h => h) (Or.inl ⟨by kernel_rfl, ?_⟩) (by assumption) ?_
          rotate_left
          · intro w hSw; (try dsimp only at hSw); go_simp; first | done | with_reducible rfl
          try simp only [List.getElem_toArray, List.getElem_cons_zero, List.getElem_cons_succ, Act.put, List.setIfInBounds_toArray, List.set_cons_zero, List.set_cons_succ]
          refine wpAnyH_take (i := 4) (oi := _) (v := ?_) rfl (by kernel_rfl) (by kernel_rfl) (by kernel_rfl) (fun _ _ _ h => h) (Or.inl ⟨by kernel_rfl, ?_⟩) (by assumption) ?_
          rotate_left
          · intro w hSw; (try dsimp only at hSw); go_simp; first | done | with_reducible rfl
          try simp only [List.getElem_toArray, List.getElem_cons_zero, List.getElem_cons_succ, Act.put, List.setIfInBounds_toArray, List.set_cons_zero, List.set_cons_succ]
          refine wpAnyH_take (i := 5) (oi := _) (v := ?_) rfl (by kernel_rfl) (by kernel_rfl) (by kernel_rfl) (fun _ _ _ h => h) (Or.inl ⟨by kernel_rfl, ?_⟩) (by assumption) ?_
          rotate_left
          · intro w hSw; (try dsimp only at hSw); go_simp; first | done | with_reducible rfl
          try simp only [List.getElem_toArray, List.getElem_cons_zero, List.getElem_cons_succ, Act.put, List.setIfInBounds_toArray, List.set_cons_zero, List.set_cons_succ]
          refine wpAnyH_take (i := 6) (oi := _) (v := ?_) rfl (by kernel_rfl) (by kernel_rfl) (by kernel_rfl) (fun _ _ _ h => h) (Or.inl ⟨by kernel_rfl, ?_⟩) (by assumption) ?_
          rotate_left
          · intro w hSw; (try dsimp only at hSw); go_simp; first | done | with_reducible rfl
          try simp only [List.getElem_toArray, List.getElem_cons_zero, List.getElem_cons_succ, Act.put, List.setIfInBounds_toArray, List.set_cons_zero, List.set_cons_succ]
          refine wpAnyH_take (i := 7) (oi := _) (v := ?_) rfl (by kernel_rfl) (by kernel_rfl) (by kernel_rfl) (fun _ _ _ h => h) (Or.inl ⟨by kernel_rfl, ?_⟩) (by assumption) ?_
          rotate_left
          · intro w hSw; (try dsimp only at hSw); go_simp; first | done | with_reducible rfl
          try simp only [List.getElem_toArray, List.getElem_cons_zero, List.getElem_cons_succ, Act.put, List.setIfInBounds_toArray, List.set_cons_zero, List.set_cons_succ]
          refine wpAnyH_take (i := 8) (oi := _) (v := ?_) rfl (by kernel_rfl) (by kernel_rfl) (by kernel_rfl) (fun _ _ _ h => h) (Or.inl ⟨by kernel_rfl, ?_⟩) (by assumption) ?_
          rotate_left
          · intro w hSw; (try dsimp only at hSw); go_simp; first | done | with_reducible rfl
          try simp only [List.getElem_toArray, List.getElem_cons_zero, List.getElem_cons_succ, Act.put, List.setIfInBounds_toArray, List.set_cons_zero, List.set_cons_succ]
          refine wpAnyH_take (i := 9) (oi := _) (v := ?_) rfl (by kernel_rfl) (by kernel_rfl) (by kernel_rfl) (fun _ _ _ h => h) (Or.inl ⟨by kernel_rfl, ?_⟩) (by assumption) ?_
          rotate_left
          · intro w hSw; (try dsimp only at hSw); go_simp; first | done | with_reducible rfl
          try simp only [List.getElem_toArray, List.getElem_cons_zero, List.getElem_cons_succ, Act.put, List.setIfInBounds_toArray, List.set_cons_zero, List.set_cons_succ]
          refine wpAnyH_take (i := 10) (oi := _) (v := ?_) rfl (by kernel_rfl) (by kernel_rfl) (by kernel_rfl) (fun _ _ _ h => h) (Or.inl ⟨by kernel_rfl, ?_⟩) (by assumption) ?_
          rotate_left
          · intro w hSw; (try dsimp only at hSw); go_simp; first | done | with_reducible rfl
          try simp only [List.getElem_toArray, List.getElem_cons_zero, List.getElem_cons_succ, Act.put, List.setIfInBounds_toArray, List.set_cons_zero, List.set_cons_succ]
          refine wpAnyH_take (i := 11) (oi := _) (v := ?_) rfl (by kernel_rfl) (by kernel_rfl) (by kernel_rfl) (fun _ _ _ h => h) (Or.inl ⟨by kernel_rfl, ?_⟩) (by assumption) ?_
          rotate_left
          · intro w hSw; (try dsimp only at hSw); go_simp; first | done | with_reducible rfl
          try simp only [List.getElem_toArray, List.getElem_cons_zero, List.getElem_cons_succ, Act.put, List.setIfInBounds_toArray, List.set_cons_zero, List.set_cons_succ]
          refine wpAnyH_take (i := 12) (oi := _) (v := ?_) rfl (by kernel_rfl) (by kernel_rfl) (by kernel_rfl) (fun _ _ _ h => h) (Or.inl ⟨by kernel_rfl, ?_⟩) (by assumption) ?_
          rotate_left
          · intro w hSw; (try dsimp only at hSw); go_simp; first | done | with_reducible rfl
          try simp only [List.getElem_toArray, List.getElem_cons_zero, List.getElem_cons_succ, Act.put, List.setIfInBounds_toArray, List.set_cons_zero, List.set_cons_succ]
          refine wpAnyH_take (i := 13) (oi := _) (v := ?_) rfl (by kernel_rfl) (by kernel_rfl) (by kernel_rfl) (fun _ _ _ h => h) (Or.inl ⟨by kernel_rfl, ?_⟩) (by assumption) ?_
          rotate_left
          · intro w hSw; (try dsimp only at hSw); go_simp; first | done | with_reducible rfl
          try simp only [List.getElem_toArray, List.getElem_cons_zero, List.getElem_cons_succ, Act.put, List.setIfInBounds_toArray, List.set_cons_zero, List.set_cons_succ]
          refine wpAnyH_ready (rs := [14]) (by kernel_rfl) (by simp) ?_
          refine AllReadyH.cons (o := _) rfl (fun K hK => ?_) AllReadyH.nil
          go_simp
          refine hK.out _ _ trivial (fun hHeld => ?_)
          clear hK K
          try simp only [List.getElem_toArray, List.getElem_cons_zero, List.getElem_cons_succ, Act.put, List.setIfInBounds_toArray, List.set_cons_zero, List.set_cons_succ]
          refine wpAnyH_take (i := 15) (oi := _) (v := ?_) rfl (by kernel_rfl) (by kernel_rfl) (by kernel_rfl) (fun _ _ _ h => h) (Or.inl ⟨by kernel_rfl, ?_⟩) (by assumption) ?_
          rotate_left
          · intro w hSw; (try dsimp only at hSw); go_simp; first | done | with_reducible rfl
          try simp only [List.getElem_toArray, List.getElem_cons_zero, List.getElem_cons_succ, Act.put, List.setIfInBounds_toArray, List.set_cons_zero, List.set_cons_succ]
          refine wpAnyH_ready (rs := [16]) (by kernel_rfl) (by simp) ?_
          refine AllReadyH.cons (o := _) rfl (fun K hK => ?_) AllReadyH.nil
          go_simp
          refine hK.out _ _ trivial (fun hHeld => ?_)
          clear hK K
          try simp only [List.getElem_toArray, List.getElem_cons_zero, List.getElem_cons_succ, Act.put, List.setIfInBounds_toArray, List.set_cons_zero, List.set_cons_succ]
          refine wpAnyH_done (by kernel_rfl) ?_ _
          have c7 := (X8.mixSet hlt q).mixAt hlt
          rw [upd_same] at c7
          replace B := (B.setCell (p := ⟨b8, k, none⟩) hb8 (.int .i16 q)).setCell (p := ⟨b8 + 1, k, none⟩) hb9 (.int .i64 r)
          replace X4 := (X4.other (g := b8) (o := k) (.int .i16 q) (by omega)).other (g := b8 + 1) (o := k) (.int .i64 r) (by omega)
          replace X9 := ((X9.other (g := b8) (o := k) (.int .i16 q) (by omega)).resSet hlt r).resEq (o := fun j => if j < k + 1 then rL m n j else 0) (fun j _ => by rw [HRr.out]; exact upd_grow j)
          replace X8 := ((X8.mixSet hlt q).other (g := b8 + 1) (o := k) (.int .i64 r) (by omega))
          replace HG' := (HG'.other (g := b8) (o := k) (.int .i16 q) (by omega)).other (g := b8 + 1) (o := k) (.int .i64 r) (by omega)
          clear c5 c6 z5 z6 c7
          obtain ⟨wz, hwz⟩ : ∃ wz, wz = (wq.setCell ⟨b8, k, none⟩ (.int .i16 q)).setCell ⟨b8 + 1, k, none⟩ (.int .i64 r) := ⟨_, rfl⟩
          rw [← hwz] at B X4 X8 X9 HG' ⊢
          clear hwz
          have c7 := X8.mixAt hlt
          rw [upd_same] at c7
          replace X8 := X8.mixEq (o := fun j => if j < k + 1 then qL m n j else 0) (fun j _ => by rw [HQ.out]; exact upd_grow j)
          go_wp2
          exact ⟨⟨k + 1, by omega, by first | go_num | simp, by rw [HE.out], B, X4, X8, X9, HG'⟩, by simp [intOf]; omega⟩
        · obtain rfl : k = 3 := by omega
          obtain ⟨l, hl, o, r, ho, hr, hat⟩ := MixAt.start (o := fun j => if j < 3 then qL m n j else 0) (r := fun j => if j < 3 then rL m n j else 0) HM.out hn (z := 0) (.inl rfl) (fun j hj => by rw [if_pos hj]) (fun j hj => by rw [if_pos hj])
          replace X8 := X8.mixEq ho
          replace X9 := X9.resEq hr
          rw [hl, show ((3 : Nat) : Int) = (3 : Int) from rfl]
          have HA0 := Lib.hid hat
          have hl2 := hat.1
          clear hl ho hr hat HG'
          go_wp2
          go_loopw [13, 57] (fun t13 t57 wr => ∃ (d l' : Nat) (o r : Nat → Int), t57 = .int .i64 d ∧ d + l' = l ∧ Below w.heap.size w wr ∧ Bx wr (b2 + 1) (mixC fun _ => 0) 44 ∧ Bx wr b8 (mixC o) 44 ∧ Bx wr (b8 + 1) (resC r) 132 ∧ MixAt 0 m n l' o r) (fun t13 t57 wr => l - (intOf t57).toNat)
          case atStart => exact ⟨0, l, o, r, rfl, by omega, B, X4, X8, X9, HA0.out⟩
          case round =>
            clear B X4 X8 X9 HA0
            obtain ⟨d, l', o, r, rfl, hdl, B, X4, X8, X9, hat⟩ := hrel
            by_cases hl0 : l' = 0
            · subst hl0
              have hdi : ¬ (d : Int) < (l : Int) := by omega
              have hend := hat.2.2
              obtain ⟨d0, d1, d2⟩ := X8.mix3
              have e0 : o 0 = needM m n 0 := by rw [← hend]; rfl
              have e1 : o 1 = needM m n 1 := by rw [← hend]; rfl
              have e2 : o 2 = needM m n 2 := by rw [← hend]; rfl
              rw [e0] at d0
              rw [e1] at d1
              rw [e2] at d2
              have Y := (show Bx wr (b2 + 1) #[.int .i16 0, .int .i16 0, .int .i16 0] 44 from X4).set3 (.int .i16 (needM m n 0)) (.int .i16 (needM m n 1)) (.int .i16 (needM m n 2))
              obtain ⟨y0, y1, y2⟩ := Y.cells3
              obtain ⟨x0, x1, x2⟩ := X4.mix3
              have z0 := X4.frozen 0
              have z1 := X4.frozen 1
              have z2 := X4.frozen 2
              have B' := below_set3 (v0 := .int .i16 (needM m n 0)) (v1 := .int .i16 (needM m n 1)) (v2 := .int .i16 (needM m n 2)) B hb4
              clear hat hend e0 e1 e2 X4 X8 X9 Y
              go_wp2
              refine bodyPost_ret (v := .agg #[.int .i16 (needM m n 0), .int .i16 (needM m n 1), .int .i16 (needM m n 2)]) (by simp [results, Try.results69, go_sem, y0, y1, y2]) rfl ⟨B', rfl⟩
            · obtain ⟨l1, rfl⟩ : ∃ l1, l' = l1 + 1 := ⟨l' - 1, by omega⟩
              have hdi : (d : Int) < (l : Int) := by omega
              have hst := hat.step
              have hb3 := bst_lt (r 0) (r 1) (r 2)
              have HF := Lib.hid (fun M (h : MaxAt r 3 M) => first_bst r h)
              obtain ⟨g2, hg⟩ : ∃ g, g = bst (r 0) (r 1) (r 2) := ⟨_, rfl⟩
              rw [← hg] at hst hb3 HF
              have ho := hat.2.1 g2 hb3
              have HST := Lib.hid hst
              have hgi : (g2 : Int) < 3 := by omega
              have hg0 : (0 : Int) ≤ (g2 : Int) := by omega
              obtain ⟨x, hx⟩ : ∃ x, x = o g2 := ⟨_, rfl⟩
              rw [← hx] at ho
              have HX := Lib.hid hx
              have e1 : IntKind.i16.wrap (x + 1) = x + 1 := IntWalk.i16_in _ (by omega)
              clear hst hg hx hat
              go_wp2
              refine wp_region_held_drew (S := (fun _ : World => True)) (by kernel_rfl) trivial (fun hHeld => ?_)
              replace B := B.drew
              obtain ⟨wq, hwq⟩ : ∃ wq, wr.drew = wq := ⟨_, rfl⟩
              replace X4 : Bx wr.drew (b2 + 1) (mixC fun _ => 0) 44 := X4
              replace X8 : Bx wr.drew b8 (mixC o) 44 := X8
              replace X9 : Bx wr.drew (b8 + 1) (resC r) 132 := X9
              rw [hwq] at B X4 X8 X9 ⊢
              clear hwq
              refine wpAnyH_take (i := 0) (oi := _) (v := ?_) rfl (by kernel_rfl) (by kernel_rfl) (by kernel_rfl) (fun _ _ _ h => h) (Or.inl ⟨by kernel_rfl, ?_⟩) (by assumption) ?_
              rotate_left
              · intro w hSw; (try dsimp only at hSw); go_simp; first | done | with_reducible rfl
              try simp only [List.getElem_toArray, List.getElem_cons_zero, List.getElem_cons_succ, Act.put, List.setIfInBounds_toArray, List.set_cons_zero, List.set_cons_succ]
              refine wpAnyH_take (i := 1) (oi := _) (v := ?_) rfl (by kernel_rfl) (by kernel_rfl) (by kernel_rfl) (fun _ _ _ h => h) (Or.inl ⟨by kernel_rfl, ?_⟩) (by assumption) ?_
              rotate_left
              · intro w hSw; (try dsimp only at hSw); go_simp; first | done | with_reducible rfl
              try simp only [List.getElem_toArray, List.getElem_cons_zero, List.getElem_cons_succ, Act.put, List.setIfInBounds_toArray, List.set_cons_zero, List.set_cons_succ]
              refine wpAnyH_ready (rs := [2]) (by kernel_rfl) (by simp) ?_
              refine AllReadyH.cons (o := _) rfl (fun K hK => ?_) AllReadyH.nil
              go_simp
              refine (maxN_any (some ⟨b8 + 1, 0, none⟩) 3 3 r wq (by omega) (by omega) X9.rdRes).mono ?_
              rintro e w3 ⟨hw3, M, hM, rfl⟩
              subst hw3
              refine hK.out _ _ trivial (fun hHeld => ?_)
              clear hK K
              try simp only [List.getElem_toArray, List.getElem_cons_zero, List.getElem_cons_succ, Act.put, List.setIfInBounds_toArray, List.set_cons_zero, List.set_cons_succ]
              refine wpAnyH_ready (rs := [3]) (by kernel_rfl) (by simp) ?_
              refine AllReadyH.cons (o := _) rfl (fun K hK => ?_) AllReadyH.nil
              go_simp
              refine (index_at (some ⟨b8 + 1, 0, none⟩) 3 3 r M g2 _ (by omega) X9.rdRes (HF.out M hM)).mono ?_
              rintro e w4 ⟨rfl, hw4⟩
              subst hw4
              refine hK.out _ _ trivial (fun hHeld => ?_)
              clear hK K
              try simp only [List.getElem_toArray, List.getElem_cons_zero, List.getElem_cons_succ, Act.put, List.setIfInBounds_toArray, List.set_cons_zero, List.set_cons_succ]
              refine wpAnyH_take (i := 4) (oi := _) (v := ?_) rfl (by kernel_rfl) (by kernel_rfl) (by kernel_rfl) (fun _ _ _ h => h) (Or.inl ⟨by kernel_rfl, ?_⟩) (by assumption) ?_
              rotate_left
              · intro w hSw; (try dsimp only at hSw); go_simp; first | done | with_reducible rfl
              try simp only [List.getElem_toArray, List.getElem_cons_zero, List.getElem_cons_succ, Act.put, List.setIfInBounds_toArray, List.set_cons_zero, List.set_cons_succ]
              refine wpAnyH_done (by kernel_rfl) ?_ _
              clear hM
              have c5 := X8.mixAt hb3
              have c6 := X9.resAt hb3
              have z5 := X8.frozen g2
              have z6 := X9.frozen g2
              rw [← HX.out] at c5
              go_wp2
              refine ⟨⟨d + 1, l1, _, _, by first | go_num | simp, by omega, (B.setCell (p := ⟨b8, g2, none⟩) hb8 _).setCell (p := ⟨b8 + 1, g2, none⟩) hb9 _, (X4.other _ (by omega)).other _ (by omega), ?_, ?_, HST.out⟩, by simp [intOf]; omega⟩
              · rw [← HX.out]
                exact (X8.mixSet hb3 (x + 1)).other _ (by omega)
              · exact (X9.other _ (by omega)).resSet hb3 0
end Go.Proofs.Ytgpnimbgckajlaa
