/-
  Both sides of SteepestFall answer the same. Conditions stand at each.
-/
import Derived.Test.YtegnhpanlbfmdaaRows
import Derived.Test.YtegnhpanlbfmdaaSteepI
import Derived.Deep.Cut
import Derived.Deep.RegionHeld3
namespace Go.Proofs.Ytegnhpanlbfmdaa
open Go Go.ChangeShapes Go.WideShapes Go.ChangeAt Go.RowKit
set_option linter.unusedVariables false
set_option linter.unusedSimpArgs false
set_option maxRecDepth 100000
set_option maxHeartbeats 4000000

namespace steepestFall
theorem dF_le {W H : Nat} {h : Nat → Int} (hh : ∀ p, -32768 ≤ h p ∧ h p ≤ 32767) (p : Nat × Nat) : dF W H h p ≤ 65535 := by
  have h1 := hh (p.2 * 9 + p.1)
  have h2 := hh ((lowP W H h p).2 * 9 + (lowP W H h p).1)
  unfold dF htP
  omega

theorem spec_in (W H : Nat) (h : Nat → Int) (g n : Nat) (c : Nat → Int) (w : World) (hh : ∀ p, -32768 ≤ h p ∧ h p ≤ 32767) (hc : ∀ j, -128 ≤ c j ∧ c j ≤ 127) (hA : Ac w g n c) (hv : GValid W H h n c) (p0 q0 p1 q1 z2 z3 : Int) (k : Nat) (hk : k = (lsS (fun i => - dF W H h (cl W i)) (W * H)).1) (hz : (dF W H h (cl W k) = 0 ∧ p0 = 0 ∧ q0 = 0 ∧ p1 = 0 ∧ q1 = 0 ∧ z2 = 0 ∧ z3 = 6) ∨ (dF W H h (cl W k) ≠ 0 ∧ p0 = ((cl W k).1 : Int) ∧ q0 = ((cl W k).2 : Int) ∧ p1 = ((lowP W H h (cl W k)).1 : Int) ∧ q1 = ((lowP W H h (cl W k)).2 : Int) ∧ z2 = dF W H h (cl W k) ∧ z3 = 0)) :
    Calls Try.prog 48 #[.agg (gV W H h (.slice (some ⟨g, 0, none⟩) n n))] w fun e w' => Below w.heap.size w w' ∧ e = .returned (.tuple #[.agg #[.int .i8 p0, .int .i8 q0], .agg #[.int .i8 p1, .int .i8 q1], .int .i64 z2, .int .i64 z3]) := by
  have hX : 1 ≤ (W : Int) ∧ (W : Int) ≤ 9 := hv.1.1
  have hY : 1 ≤ (H : Int) ∧ (H : Int) ≤ 9 := hv.1.2.1
  have h8 : n ≤ 8 := hv.1.2.2
  have hW : W ≤ 9 := by omega
  have hH : H ≤ 9 := by omega
  have HV := Lib.hid hv
  have HH := Lib.hid hh
  have HC := Lib.hid hc
  have HZ := Lib.hid hz
  have HK := Lib.hid hk
  have hN1 : 1 ≤ W * H := Nat.mul_pos (by omega) (by omega)
  have hN81 : W * H ≤ 81 := Nat.mul_le_mul hW hH
  have hbl := bS_ls (fun i => dF W H h (cl W i)) (W * H) hN1 (fun j => dF_nonneg _)
  have HBL := Lib.hid hbl
  clear hv hh hc hz hk hbl
  have X2 := ((Bx.new w (gV W H h (.slice (some ⟨g, 0, none⟩) n n)) 33).alloc (.cells #[.int .i8 0, .int .i8 0] 40)).alloc (.cells #[.int .i8 0, .int .i8 0] 40)
  have Z2 := (Bx.newAt (w.alloc (.cells (gV W H h (.slice (some ⟨g, 0, none⟩) n n)) 33)) (w.heap.size + 1) #[.int .i8 0, .int .i8 0] 40 (by simp)).alloc (.cells #[.int .i8 0, .int .i8 0] 40)
  have Z3 := Bx.newAt ((w.alloc (.cells (gV W H h (.slice (some ⟨g, 0, none⟩) n n)) 33)).alloc (.cells #[.int .i8 0, .int .i8 0] 40)) (w.heap.size + 1 + 1) #[.int .i8 0, .int .i8 0] 40 (by simp)
  have B := al (al (al (Below.refl w.heap.size w) (.cells (gV W H h (.slice (some ⟨g, 0, none⟩) n n)) 33)) (.cells #[.int .i8 0, .int .i8 0] 40)) (.cells #[.int .i8 0, .int .i8 0] 40)
  replace hA := ((hA.alloc (.cells (gV W H h (.slice (some ⟨g, 0, none⟩) n n)) 33)).alloc (.cells #[.int .i8 0, .int .i8 0] 40)).alloc (.cells #[.int .i8 0, .int .i8 0] 40)
  go_enter Try.func48, Try.ntmps48
  go_upto_region 1 with fail
  obtain ⟨W0, hW0⟩ : ∃ W0 : World, W0 = ((w.alloc (.cells (gV W H h (.slice (some ⟨g, 0, none⟩) n n)) 33)).alloc (.cells #[.int .i8 0, .int .i8 0] 40)).alloc (.cells #[.int .i8 0, .int .i8 0] 40) := ⟨_, rfl⟩
  rw [← hW0] at X2 Z2 Z3 B hA ⊢
  clear hW0
  have hz0 := Z3.lt
  go_wp2_with fail
  refine (gok_any W H h w.heap.size _ n n c _ (by omega) (by omega) HH.out HC.out (by omega) X2 hA.rd).mono ?_
  rintro e w1 ⟨hb, ⟨_, rfl⟩ | ⟨hv, rfl⟩⟩
  case inr => exact absurd HV.out hv
  replace X2 := X2.below hb
  replace Z2 := Z2.below hb
  replace Z3 := Z3.below hb
  replace B := nxt B hb
  clear hb
  clear hA
  have hz1 := Z3.lt
  have X6 := (Bx.new w1 #[.int .i8 0, .int .i8 0] 40).alloc (.cells #[.int .i8 0, .int .i8 0] 40)
  have X7 := Bx.newAt (w1.alloc (.cells #[.int .i8 0, .int .i8 0] 40)) (w1.heap.size + 1) #[.int .i8 0, .int .i8 0] 40 (by simp)
  replace X2 := (X2.alloc (.cells #[.int .i8 0, .int .i8 0] 40)).alloc (.cells #[.int .i8 0, .int .i8 0] 40)
  replace Z2 := (Z2.alloc (.cells #[.int .i8 0, .int .i8 0] 40)).alloc (.cells #[.int .i8 0, .int .i8 0] 40)
  replace Z3 := (Z3.alloc (.cells #[.int .i8 0, .int .i8 0] 40)).alloc (.cells #[.int .i8 0, .int .i8 0] 40)
  replace B := al (al B (.cells #[.int .i8 0, .int .i8 0] 40)) (.cells #[.int .i8 0, .int .i8 0] 40)
  have W1 : ∃ W1 : World, W1 = (w1.alloc (.cells #[.int .i8 0, .int .i8 0] 40)).alloc (.cells #[.int .i8 0, .int .i8 0] 40) := ⟨_, rfl⟩
  go_upto_region 5 with fail
  obtain ⟨W1, hW1⟩ := W1
  rw [← hW1] at X2 Z2 Z3 X6 X7 B ⊢
  have hs1 : W1.heap.size = w1.heap.size + 2 := by rw [hW1]; simp
  have HS1 := Lib.hid hs1
  clear hW1 hs1
  go_wp2_with fail
  refine (gall_any W H w.heap.size h _ _ (by omega) hW hH X2).mono ?_
  rintro e w2 ⟨hb, va, rfl, OA⟩
  obtain ⟨N, hN⟩ : ∃ N, N = W * H := ⟨_, rfl⟩
  rw [← hN] at OA hN1 hN81 HBL HK
  obtain ⟨Aa, capa, rfl, hAa⟩ := OwnC.form OA
  rw [allC_length] at OA hAa ⊢
  replace X2 := X2.below hb
  replace Z2 := Z2.below hb
  replace Z3 := Z3.below hb
  replace X6 := X6.below hb
  replace X7 := X7.below hb
  replace B := nxt B hb
  clear hb
  replace OA : OwnC w2 (w1.heap.size + 2) _ _ := World.ownsRow.mono OA (by rw [HS1.out]; omega)
  have HN := Lib.hid hN
  clear hN
  go_wp2_with fail
  go_loopw [8, 10, 11, 12, 13] (fun t8 t10 t11 t12 t13 wr => ∃ i : Nat, i ≤ N ∧ t10 = .int .i64 i ∧ Bx wr w.heap.size (gV W H h (.slice (some ⟨g, 0, none⟩) n n)) 33 ∧ Below w.heap.size w wr ∧ OwnC wr (w1.heap.size + 2) (.slice Aa N capa) (allC W N) ∧ Bx wr (w.heap.size + 1) #[.int .i8 0, .int .i8 0] 40 ∧ Bx wr (w.heap.size + 1 + 1) #[.int .i8 0, .int .i8 0] 40 ∧ t8 = .int .i64 (bS (fun i => dF W H h (cl W i)) i).2 ∧ ∃ q6 q7 : Nat × Nat, Bx wr (w1.heap.size) (cellA q6) 40 ∧ Bx wr (w1.heap.size + 1) (cellA q7) 40 ∧ ((bS (fun i => dF W H h (cl W i)) i).2 ≠ 0 → q6 = cl W (bS (fun i => dF W H h (cl W i)) i).1 ∧ q7 = lowP W H h q6)) (fun t8 t10 t11 t12 t13 _ => N - (intOf t10).toNat)
  case atStart => exact ⟨0, by omega, rfl, X2, B, OA, Z2, Z3, rfl, (0, 0), (0, 0), X6, X7, fun h => absurd rfl h⟩
  case round =>
    clear B OA X2 Z2 Z3 X6 X7
    obtain ⟨i, hi, rfl, X2, B, OA, Z2, Z3, rfl, q6, q7, X6, X7, hq⟩ := hrel
    obtain ⟨wo, rfl⟩ : ∃ wo : World, wo = wr := ⟨_, rfl⟩
    have HQ6 := Lib.hid hq
    clear hq
    by_cases hlt : i < N
    · have hii : (i : Int) < N := by omega
      obtain ⟨ga, rfl, hga, _⟩ := hAa (by omega)
      obtain ⟨x, y, hxy⟩ : ∃ x y, cl W i = (x, y) := ⟨_, _, rfl⟩
      have hbd := cl_lt (by omega : W ≤ 12) (by omega : H ≤ 12) (show i < W * H by rw [← HN.out]; exact hlt)
      rw [hxy] at hbd
      have hyes := bS_yes (d := (fun i => dF W H h (cl W i))) (i := i)
      have hno := bS_no (d := (fun i => dF W H h (cl W i))) (i := i)
      have hdi : dF W H h (cl W i) = dF W H h (x, y) := by rw [hxy]
      rw [hdi] at hyes hno
      have hsp := bS_spec (fun i => dF W H h (cl W i)) i
      have hm0 : 0 ≤ (bS (fun i => dF W H h (cl W i)) i).2 ∧ (bS (fun i => dF W H h (cl W i)) i).2 ≤ 65535 := by
        refine ⟨hsp.1, ?_⟩
        rcases hsp.2.2 with e | ⟨_, e, _⟩
        · rw [e]; decide
        · rw [← e]
          exact dF_le HH.out _
      have HY := Lib.hid hyes
      have HNO := Lib.hid hno
      obtain ⟨M0, hM0⟩ : ∃ M0, M0 = (bS (fun i => dF W H h (cl W i)) i).2 := ⟨_, rfl⟩
      rw [← hM0] at HQ6 HY HNO hm0 ⊢
      have HM0 := Lib.hid hM0
      clear hyes hno hdi hsp hM0
      obtain ⟨hx, hy⟩ := hbd
      dsimp only at hx hy
      obtain ⟨c0, c1⟩ := OwnC.get OA (allC_length W N) (q := (x, y)) (by rw [allC_get W N i hlt, hxy])
      dsimp only at c0 c1
      have HXY := Lib.hid hxy
      clear hxy
      have hxi : (x : Int) < 9 := by omega
      have hyi : (y : Int) < 9 := by omega
      go_wp2_with fail
      refine (gbes_any W H x y h _ w.heap.size _ hW hH hx hy X2).mono ?_
      rintro e w3 ⟨hb, v, rfl, OL⟩
      have hL : ∀ q ∈ besL W H x y, q.1 < W ∧ q.2 < H := fun q hq => besK_mem hq
      have hm4 : (besL W H x y).length ≤ 4 := besK_length 4
      have hdf : dF W H h (x, y) = htP h (x, y) - htP h (lowL h (besL W H x y) (x, y)) := rfl
      have hlo : lowP W H h (x, y) = lowL h (besL W H x y) (x, y) := rfl
      generalize besL W H x y = L at OL hL hm4 hdf hlo
      obtain ⟨m, hm⟩ : ∃ m, m = L.length := ⟨_, rfl⟩
      obtain ⟨A2, cap2, rfl, hA2⟩ := OL.form
      rw [← hm] at OL hA2 hm4 ⊢
      have hs3 := X7.lt
      have hs2 := X2.lt
      replace OA := OwnC.below OA hb
      replace X2 := X2.below hb
      replace Z2 := Z2.below hb
      replace Z3 := Z3.below hb
      replace X6 := X6.below hb
      replace X7 := X7.below hb
      replace B := nxt B hb
      clear hb
      replace OL : OwnC w3 (w1.heap.size + 2) _ L := World.ownsRow.mono OL (by omega)
      have HL := Lib.hid hL
      have HM := Lib.hid hm
      have HDF := Lib.hid hdf
      have HLO := Lib.hid hlo
      clear hL hm c0 c1 hdf hlo
      go_wp2_with fail
      go_loopw [8, 12, 13] (fun t8 t12 t13 wr => ∃ k : Nat, k ≤ m ∧ t12 = .int .i64 k ∧ Bx wr w.heap.size (gV W H h (.slice (some ⟨g, 0, none⟩) n n)) 33 ∧ Below w.heap.size w wr ∧ OwnC wr (w1.heap.size + 2) (.slice (some ⟨ga, 0, none⟩) N capa) (allC W N) ∧ Bx wr (w.heap.size + 1) #[.int .i8 0, .int .i8 0] 40 ∧ Bx wr (w.heap.size + 1 + 1) #[.int .i8 0, .int .i8 0] 40 ∧ OwnC wr (w1.heap.size + 2) (.slice A2 m cap2) L ∧ ∃ (m' : Int) (p6 p7 : Nat × Nat), t8 = .int .i64 m' ∧ Bx wr (w1.heap.size) (cellA p6) 40 ∧ Bx wr (w1.heap.size + 1) (cellA p7) 40 ∧ 0 ≤ m' ∧ m' ≤ 65535 ∧
        ((M0 < htP h (x, y) - htP h (lowL h (L.take k) (x, y)) ∧ m' = htP h (x, y) - htP h (lowL h (L.take k) (x, y)) ∧ p6 = (x, y) ∧ p7 = lowL h (L.take k) (x, y)) ∨ (htP h (x, y) - htP h (lowL h (L.take k) (x, y)) ≤ M0 ∧ m' = M0 ∧ p6 = q6 ∧ p7 = q7))) (fun t8 t12 t13 _ => m - (intOf t12).toNat)
      case atStart =>
        refine ⟨0, by omega, rfl, X2, B, OA, Z2, Z3, OL, M0, q6, q7, rfl, X6, X7, hm0.1, hm0.2, .inr ⟨?_, rfl, rfl, rfl⟩⟩
        show htP h (x, y) - htP h (x, y) ≤ M0
        omega
      case round =>
        clear B X2 OA OL Z2 Z3 X6 X7
        obtain ⟨k, hk, rfl, X2, B, OA, Z2, Z3, OL, m', p6, p7, rfl, X6, X7, hm1, hm2, hst⟩ := hrel
        obtain ⟨wi, rfl⟩ : ∃ wi : World, wi = wr := ⟨_, rfl⟩
        have HST := Lib.hid hst
        clear hst
        by_cases hlk : k < m
        · have hki : (k : Int) < m := by omega
          obtain ⟨gb, rfl, hgb, _⟩ := hA2 (by omega)
          have hq : L[k]? = some (L[k]'(by rw [← HM.out]; exact hlk)) := List.getElem?_eq_getElem _
          obtain ⟨⟨a, b⟩, hq⟩ : ∃ q, L[k]? = some q := ⟨_, hq⟩
          obtain ⟨hqa, hqb⟩ := HL.out _ (List.mem_of_getElem? hq)
          dsimp only at hqa hqb
          obtain ⟨d0, d1⟩ := OwnC.get OL HM.out.symm hq
          dsimp only at d0 d1
          obtain ⟨c0, c1⟩ := OwnC.get OA (allC_length W N) (q := (x, y)) (by rw [allC_get W N i hlt, HXY.out])
          dsimp only at c0 c1
          have HQ := Lib.hid hq
          clear hq
          have hai : (a : Int) < 9 := by omega
          have hbi : (b : Int) < 9 := by omega
          have hz1 := HH.out (y * 9 + x)
          have hz2 := HH.out (b * 9 + a)
          have wz : IntKind.i64.wrap (h (y * 9 + x) - h (b * 9 + a)) = h (y * 9 + x) - h (b * 9 + a) := IntWalk.i64_in _ (by omega)
          by_cases hgt : m' < h (y * 9 + x) - h (b * 9 + a)
          · have HGT := Lib.hid hgt
            have hs6 := X6.lt
            have hs7 := X7.lt
            go_wp2
            refine wp_region_held_drew (S := (fun w' : World => w'.cell? ⟨ga, i * 2, none⟩ = some (.int .i8 (x : Int)) ∧ w'.cell? ⟨ga, i * 2 + 1, none⟩ = some (.int .i8 (y : Int)) ∧ w'.cell? ⟨gb, k * 2, none⟩ = some (.int .i8 (a : Int)) ∧ w'.cell? ⟨gb, k * 2 + 1, none⟩ = some (.int .i8 (b : Int)))) (by kernel_rfl) ⟨c0, c1, d0, d1⟩ (fun hHeld => ?_)
            refine wpAnyH_take (i := 0) (oi := _) (v := ?_) rfl (by kernel_rfl) (by kernel_rfl) (by kernel_rfl) (fun _ _ _ h => h) (Or.inl ⟨by kernel_rfl, ?_⟩) (by assumption) ?_
            rotate_left
            · intro w hSw; (try dsimp only at hSw); go_simp; first | done | with_reducible rfl
            try simp only [List.getElem_toArray, List.getElem_cons_zero, List.getElem_cons_succ, Act.put, List.setIfInBounds_toArray, List.set_cons_zero, List.set_cons_succ]
            refine wpAnyH_take (i := 1) (oi := _) (v := ?_) rfl (by kernel_rfl) (by kernel_rfl) (by kernel_rfl) (fun _ _ _ h => h) (Or.inl ⟨by kernel_rfl, ?_⟩) (by assumption) ?_
            rotate_left
            · intro w hSw; (try dsimp only at hSw); go_simp; first | done | with_reducible rfl
            try simp only [List.getElem_toArray, List.getElem_cons_zero, List.getElem_cons_succ, Act.put, List.setIfInBounds_toArray, List.set_cons_zero, List.set_cons_succ]
            refine wpAnyH_take (i := 2) (oi := _) (v := ?_) rfl (by kernel_rfl) (by kernel_rfl) (by kernel_rfl) (fun _ _ _ h => h) (Or.inl ⟨by kernel_rfl, ?_⟩) (by assumption) ?_
            rotate_left
            · intro w hSw; (try dsimp only at hSw); go_simp; first | done | with_reducible rfl
            try simp only [List.getElem_toArray, List.getElem_cons_zero, List.getElem_cons_succ, Act.put, List.setIfInBounds_toArray, List.set_cons_zero, List.set_cons_succ]
            refine wpAnyH_take (i := 3) (oi := _) (v := ?_) rfl (by kernel_rfl) (by kernel_rfl) (by kernel_rfl) (fun _ _ _ h => h) (Or.inl ⟨by kernel_rfl, ?_⟩) (by assumption) ?_
            rotate_left
            · intro w hSw; (try dsimp only at hSw); go_simp; first | done | with_reducible rfl
            try simp only [List.getElem_toArray, List.getElem_cons_zero, List.getElem_cons_succ, Act.put, List.setIfInBounds_toArray, List.set_cons_zero, List.set_cons_succ]
            refine wpAnyH_take (i := 5) (oi := _) (v := ?_) rfl (by kernel_rfl) (by kernel_rfl) (by kernel_rfl) (fun _ _ _ h => h) (Or.inl ⟨by kernel_rfl, ?_⟩) (by assumption) ?_
            rotate_left
            · intro w hSw; (try dsimp only at hSw); go_simp; first | done | with_reducible rfl
            try simp only [List.getElem_toArray, List.getElem_cons_zero, List.getElem_cons_succ, Act.put, List.setIfInBounds_toArray, List.set_cons_zero, List.set_cons_succ]
            refine wpAnyH_take (i := 6) (oi := _) (v := ?_) rfl (by kernel_rfl) (by kernel_rfl) (by kernel_rfl) (fun _ _ _ h => h) (Or.inl ⟨by kernel_rfl, ?_⟩) (by assumption) ?_
            rotate_left
            · intro w hSw; (try dsimp only at hSw); go_simp; first | done | with_reducible rfl
            try simp only [List.getElem_toArray, List.getElem_cons_zero, List.getElem_cons_succ, Act.put, List.setIfInBounds_toArray, List.set_cons_zero, List.set_cons_succ]
            refine wpAnyH_take (i := 7) (oi := _) (v := ?_) rfl (by kernel_rfl) (by kernel_rfl) (by kernel_rfl) (fun _ _ _ h => h) (Or.inl ⟨by kernel_rfl, ?_⟩) (by assumption) ?_
            rotate_left
            · intro w hSw; (try dsimp only at hSw); go_simp; first | done | with_reducible rfl
            try simp only [List.getElem_toArray, List.getElem_cons_zero, List.getElem_cons_succ, Act.put, List.setIfInBounds_toArray, List.set_cons_zero, List.set_cons_succ]
            refine wpAnyH_take (i := 8) (oi := _) (v := ?_) rfl (by kernel_rfl) (by kernel_rfl) (by kernel_rfl) (fun _ _ _ h => h) (Or.inl ⟨by kernel_rfl, ?_⟩) (by assumption) ?_
            rotate_left
            · intro w hSw; (try dsimp only at hSw); go_simp; first | done | with_reducible rfl
            try simp only [List.getElem_toArray, List.getElem_cons_zero, List.getElem_cons_succ, Act.put, List.setIfInBounds_toArray, List.set_cons_zero, List.set_cons_succ]
            refine wpAnyH_ready (rs := [4]) (by kernel_rfl) (by simp) ?_
            refine AllReadyH.cons (o := _) rfl (fun K hK => ?_) AllReadyH.nil
            go_simp
            refine (gheight_any W H h _ w.heap.size x y _ (by omega) (by omega) HH.out X2.drew).mono ?_
            rintro e w5 ⟨rfl, hb⟩
            replace X2 := X2.drew.below hb
            replace Z2 := Z2.drew.below hb
            replace Z3 := Z3.drew.below hb
            replace X6 := X6.drew.below hb
            replace X7 := X7.drew.below hb
            replace OA := OwnC.below OA.drew hb
            replace OL := OwnC.below OL.drew hb
            replace B := nxt B.drew hb
            clear hb c0 c1 d0 d1
            obtain ⟨c0, c1⟩ := OwnC.get OA (allC_length W N) (q := (x, y)) (by rw [allC_get W N i hlt, HXY.out])
            dsimp only at c0 c1
            obtain ⟨d0, d1⟩ := OwnC.get OL HM.out.symm HQ.out
            dsimp only at d0 d1
            refine hK.out _ _ ⟨c0, c1, d0, d1⟩ (fun hHeld => ?_)
            clear hK K
            try simp only [List.getElem_toArray, List.getElem_cons_zero, List.getElem_cons_succ, Act.put, List.setIfInBounds_toArray, List.set_cons_zero, List.set_cons_succ]
            refine wpAnyH_ready (rs := [9]) (by kernel_rfl) (by simp) ?_
            refine AllReadyH.cons (o := _) rfl (fun K hK => ?_) AllReadyH.nil
            go_simp
            refine (gheight_any W H h _ w.heap.size a b _ (by omega) (by omega) HH.out X2).mono ?_
            rintro e w5 ⟨rfl, hb⟩
            replace X2 := X2.below hb
            replace Z2 := Z2.below hb
            replace Z3 := Z3.below hb
            replace X6 := X6.below hb
            replace X7 := X7.below hb
            replace OA := OwnC.below OA hb
            replace OL := OwnC.below OL hb
            replace B := nxt B hb
            clear hb c0 c1 d0 d1
            obtain ⟨c0, c1⟩ := OwnC.get OA (allC_length W N) (q := (x, y)) (by rw [allC_get W N i hlt, HXY.out])
            dsimp only at c0 c1
            obtain ⟨d0, d1⟩ := OwnC.get OL HM.out.symm HQ.out
            dsimp only at d0 d1
            refine hK.out _ _ ⟨c0, c1, d0, d1⟩ (fun hHeld => ?_)
            clear hK K
            try simp only [List.getElem_toArray, List.getElem_cons_zero, List.getElem_cons_succ, Act.put, List.setIfInBounds_toArray, List.set_cons_zero, List.set_cons_succ]
            refine wpAnyH_take (i := 10) (oi := _) (v := ?_) rfl (by kernel_rfl) (by kernel_rfl) (by kernel_rfl) (fun _ _ _ h => h) (Or.inl ⟨by kernel_rfl, ?_⟩) (by assumption) ?_
            rotate_left
            · intro w hSw; (try dsimp only at hSw); go_simp; first | done | with_reducible rfl
            try simp only [List.getElem_toArray, List.getElem_cons_zero, List.getElem_cons_succ, Act.put, List.setIfInBounds_toArray, List.set_cons_zero, List.set_cons_succ]
            refine wpAnyH_take (i := 11) (oi := _) (v := ?_) rfl (by kernel_rfl) (by kernel_rfl) (by kernel_rfl) (fun _ _ _ h => h) (Or.inl ⟨by kernel_rfl, ?_⟩) (by assumption) ?_
            rotate_left
            · intro w hSw; (try dsimp only at hSw); go_simp; first | done | with_reducible rfl
            try simp only [List.getElem_toArray, List.getElem_cons_zero, List.getElem_cons_succ, Act.put, List.setIfInBounds_toArray, List.set_cons_zero, List.set_cons_succ]
            refine wpAnyH_done (by kernel_rfl) ?_ _
            have s60 := X6.cell 0
            have s61 := X6.cell 1
            have f60 := X6.frozen 0
            have f61 := X6.frozen 1
            dsimp only [cellA] at s60 s61
            simp only [List.getElem?_toArray, List.getElem?_cons_zero, List.getElem?_cons_succ] at s60 s61
            clear hHeld d0 d1
            go_upto_region 17 with fail
            replace X2 := (X2.other (g := w1.heap.size) (o := 0) (.int .i8 (x : Int)) (by omega)).other (g := w1.heap.size) (o := 1) (.int .i8 (y : Int)) (by omega)
            replace Z2 := (Z2.other (g := w1.heap.size) (o := 0) (.int .i8 (x : Int)) (by omega)).other (g := w1.heap.size) (o := 1) (.int .i8 (y : Int)) (by omega)
            replace Z3 := (Z3.other (g := w1.heap.size) (o := 0) (.int .i8 (x : Int)) (by omega)).other (g := w1.heap.size) (o := 1) (.int .i8 (y : Int)) (by omega)
            replace X7 := (X7.other (g := w1.heap.size) (o := 0) (.int .i8 (x : Int)) (by omega)).other (g := w1.heap.size) (o := 1) (.int .i8 (y : Int)) (by omega)
            replace X6 : Bx _ (w1.heap.size) (cellA (x, y)) 40 := (X6.set 0 (.int .i8 (x : Int))).set 1 (.int .i8 (y : Int))
            replace OA := (OwnC.setOther (b := w1.heap.size) (i := 0) (u := .int .i8 (x : Int)) OA (by omega)).setOther (b := w1.heap.size) (i := 1) (u := .int .i8 (y : Int)) (by omega)
            replace OL := (OwnC.setOther (b := w1.heap.size) (i := 0) (u := .int .i8 (x : Int)) OL (by omega)).setOther (b := w1.heap.size) (i := 1) (u := .int .i8 (y : Int)) (by omega)
            replace B := (B.setCell (p := ⟨w1.heap.size, 0, none⟩) (by show w.heap.size ≤ w1.heap.size; omega) (.int .i8 (x : Int))).setCell (p := ⟨w1.heap.size, 1, none⟩) (by show w.heap.size ≤ w1.heap.size; omega) (.int .i8 (y : Int))
            obtain ⟨w8, hw8⟩ : ∃ w8 : World, w8 = (w5.setCell ⟨w1.heap.size, 0, none⟩ (.int .i8 (x : Int))).setCell ⟨w1.heap.size, 1, none⟩ (.int .i8 (y : Int)) := ⟨_, rfl⟩
            rw [← hw8] at X2 Z2 Z3 X7 X6 OA OL B ⊢
            clear hw8 s60 s61 f60 f61 c0 c1
            obtain ⟨d0, d1⟩ := OwnC.get OL HM.out.symm HQ.out
            dsimp only at d0 d1
            have s60 := X7.cell 0
            have s61 := X7.cell 1
            have f60 := X7.frozen 0
            have f61 := X7.frozen 1
            dsimp only [cellA] at s60 s61
            simp only [List.getElem?_toArray, List.getElem?_cons_zero, List.getElem?_cons_succ] at s60 s61
            go_wp2
            refine ⟨⟨k + 1, by omega, by first | go_num | simp, (X2.other _ (by omega)).other _ (by omega), (B.setCell (p := ⟨w1.heap.size + 1, 0, none⟩) (by show w.heap.size ≤ w1.heap.size + 1; omega) _).setCell (p := ⟨w1.heap.size + 1, 1, none⟩) (by show w.heap.size ≤ w1.heap.size + 1; omega) _, (OwnC.setOther OA (by omega)).setOther (by omega), (Z2.other _ (by omega)).other _ (by omega), (Z3.other _ (by omega)).other _ (by omega), (OwnC.setOther OL (by omega)).setOther (by omega), _, (x, y), (a, b), rfl, (X6.other _ (by omega)).other _ (by omega), (X7.set 0 _).set 1 _, by omega, by omega, .inl ?_⟩, by simp [intOf]; omega⟩
            have hg2 : m' < htP h (x, y) - htP h (a, b) := HGT.out
            have hl : htP h (a, b) < htP h (lowL h (L.take k) (x, y)) := by rcases HST.out with k1 | k1 <;> omega
            rw [take_snoc HQ.out, lowL_yes hl]
            refine ⟨?_, rfl, rfl, rfl⟩
            rcases HST.out with k1 | k1 <;> omega
          · have HGT := Lib.hid hgt
            go_wp2
            refine wp_region_held_drew (S := (fun w' : World => w'.cell? ⟨ga, i * 2, none⟩ = some (.int .i8 (x : Int)) ∧ w'.cell? ⟨ga, i * 2 + 1, none⟩ = some (.int .i8 (y : Int)) ∧ w'.cell? ⟨gb, k * 2, none⟩ = some (.int .i8 (a : Int)) ∧ w'.cell? ⟨gb, k * 2 + 1, none⟩ = some (.int .i8 (b : Int)))) (by kernel_rfl) ⟨c0, c1, d0, d1⟩ (fun hHeld => ?_)
            refine wpAnyH_take (i := 0) (oi := _) (v := ?_) rfl (by kernel_rfl) (by kernel_rfl) (by kernel_rfl) (fun _ _ _ h => h) (Or.inl ⟨by kernel_rfl, ?_⟩) (by assumption) ?_
            rotate_left
            · intro w hSw; (try dsimp only at hSw); go_simp; first | done | with_reducible rfl
            try simp only [List.getElem_toArray, List.getElem_cons_zero, List.getElem_cons_succ, Act.put, List.setIfInBounds_toArray, List.set_cons_zero, List.set_cons_succ]
            refine wpAnyH_take (i := 1) (oi := _) (v := ?_) rfl (by kernel_rfl) (by kernel_rfl) (by kernel_rfl) (fun _ _ _ h => h) (Or.inl ⟨by kernel_rfl, ?_⟩) (by assumption) ?_
            rotate_left
            · intro w hSw; (try dsimp only at hSw); go_simp; first | done | with_reducible rfl
            try simp only [List.getElem_toArray, List.getElem_cons_zero, List.getElem_cons_succ, Act.put, List.setIfInBounds_toArray, List.set_cons_zero, List.set_cons_succ]
            refine wpAnyH_take (i := 2) (oi := _) (v := ?_) rfl (by kernel_rfl) (by kernel_rfl) (by kernel_rfl) (fun _ _ _ h => h) (Or.inl ⟨by kernel_rfl, ?_⟩) (by assumption) ?_
            rotate_left
            · intro w hSw; (try dsimp only at hSw); go_simp; first | done | with_reducible rfl
            try simp only [List.getElem_toArray, List.getElem_cons_zero, List.getElem_cons_succ, Act.put, List.setIfInBounds_toArray, List.set_cons_zero, List.set_cons_succ]
            refine wpAnyH_take (i := 3) (oi := _) (v := ?_) rfl (by kernel_rfl) (by kernel_rfl) (by kernel_rfl) (fun _ _ _ h => h) (Or.inl ⟨by kernel_rfl, ?_⟩) (by assumption) ?_
            rotate_left
            · intro w hSw; (try dsimp only at hSw); go_simp; first | done | with_reducible rfl
            try simp only [List.getElem_toArray, List.getElem_cons_zero, List.getElem_cons_succ, Act.put, List.setIfInBounds_toArray, List.set_cons_zero, List.set_cons_succ]
            refine wpAnyH_take (i := 5) (oi := _) (v := ?_) rfl (by kernel_rfl) (by kernel_rfl) (by kernel_rfl) (fun _ _ _ h => h) (Or.inl ⟨by kernel_rfl, ?_⟩) (by assumption) ?_
            rotate_left
            · intro w hSw; (try dsimp only at hSw); go_simp; first | done | with_reducible rfl
            try simp only [List.getElem_toArray, List.getElem_cons_zero, List.getElem_cons_succ, Act.put, List.setIfInBounds_toArray, List.set_cons_zero, List.set_cons_succ]
            refine wpAnyH_take (i := 6) (oi := _) (v := ?_) rfl (by kernel_rfl) (by kernel_rfl) (by kernel_rfl) (fun _ _ _ h => h) (Or.inl ⟨by kernel_rfl, ?_⟩) (by assumption) ?_
            rotate_left
            · intro w hSw; (try dsimp only at hSw); go_simp; first | done | with_reducible rfl
            try simp only [List.getElem_toArray, List.getElem_cons_zero, List.getElem_cons_succ, Act.put, List.setIfInBounds_toArray, List.set_cons_zero, List.set_cons_succ]
            refine wpAnyH_take (i := 7) (oi := _) (v := ?_) rfl (by kernel_rfl) (by kernel_rfl) (by kernel_rfl) (fun _ _ _ h => h) (Or.inl ⟨by kernel_rfl, ?_⟩) (by assumption) ?_
            rotate_left
            · intro w hSw; (try dsimp only at hSw); go_simp; first | done | with_reducible rfl
            try simp only [List.getElem_toArray, List.getElem_cons_zero, List.getElem_cons_succ, Act.put, List.setIfInBounds_toArray, List.set_cons_zero, List.set_cons_succ]
            refine wpAnyH_take (i := 8) (oi := _) (v := ?_) rfl (by kernel_rfl) (by kernel_rfl) (by kernel_rfl) (fun _ _ _ h => h) (Or.inl ⟨by kernel_rfl, ?_⟩) (by assumption) ?_
            rotate_left
            · intro w hSw; (try dsimp only at hSw); go_simp; first | done | with_reducible rfl
            try simp only [List.getElem_toArray, List.getElem_cons_zero, List.getElem_cons_succ, Act.put, List.setIfInBounds_toArray, List.set_cons_zero, List.set_cons_succ]
            refine wpAnyH_ready (rs := [4]) (by kernel_rfl) (by simp) ?_
            refine AllReadyH.cons (o := _) rfl (fun K hK => ?_) AllReadyH.nil
            go_simp
            refine (gheight_any W H h _ w.heap.size x y _ (by omega) (by omega) HH.out X2.drew).mono ?_
            rintro e w5 ⟨rfl, hb⟩
            replace X2 := X2.drew.below hb
            replace Z2 := Z2.drew.below hb
            replace Z3 := Z3.drew.below hb
            replace X6 := X6.drew.below hb
            replace X7 := X7.drew.below hb
            replace OA := OwnC.below OA.drew hb
            replace OL := OwnC.below OL.drew hb
            replace B := nxt B.drew hb
            clear hb c0 c1 d0 d1
            obtain ⟨c0, c1⟩ := OwnC.get OA (allC_length W N) (q := (x, y)) (by rw [allC_get W N i hlt, HXY.out])
            dsimp only at c0 c1
            obtain ⟨d0, d1⟩ := OwnC.get OL HM.out.symm HQ.out
            dsimp only at d0 d1
            refine hK.out _ _ ⟨c0, c1, d0, d1⟩ (fun hHeld => ?_)
            clear hK K
            try simp only [List.getElem_toArray, List.getElem_cons_zero, List.getElem_cons_succ, Act.put, List.setIfInBounds_toArray, List.set_cons_zero, List.set_cons_succ]
            refine wpAnyH_ready (rs := [9]) (by kernel_rfl) (by simp) ?_
            refine AllReadyH.cons (o := _) rfl (fun K hK => ?_) AllReadyH.nil
            go_simp
            refine (gheight_any W H h _ w.heap.size a b _ (by omega) (by omega) HH.out X2).mono ?_
            rintro e w5 ⟨rfl, hb⟩
            replace X2 := X2.below hb
            replace Z2 := Z2.below hb
            replace Z3 := Z3.below hb
            replace X6 := X6.below hb
            replace X7 := X7.below hb
            replace OA := OwnC.below OA hb
            replace OL := OwnC.below OL hb
            replace B := nxt B hb
            clear hb c0 c1 d0 d1
            obtain ⟨c0, c1⟩ := OwnC.get OA (allC_length W N) (q := (x, y)) (by rw [allC_get W N i hlt, HXY.out])
            dsimp only at c0 c1
            obtain ⟨d0, d1⟩ := OwnC.get OL HM.out.symm HQ.out
            dsimp only at d0 d1
            refine hK.out _ _ ⟨c0, c1, d0, d1⟩ (fun hHeld => ?_)
            clear hK K
            try simp only [List.getElem_toArray, List.getElem_cons_zero, List.getElem_cons_succ, Act.put, List.setIfInBounds_toArray, List.set_cons_zero, List.set_cons_succ]
            refine wpAnyH_take (i := 10) (oi := _) (v := ?_) rfl (by kernel_rfl) (by kernel_rfl) (by kernel_rfl) (fun _ _ _ h => h) (Or.inl ⟨by kernel_rfl, ?_⟩) (by assumption) ?_
            rotate_left
            · intro w hSw; (try dsimp only at hSw); go_simp; first | done | with_reducible rfl
            try simp only [List.getElem_toArray, List.getElem_cons_zero, List.getElem_cons_succ, Act.put, List.setIfInBounds_toArray, List.set_cons_zero, List.set_cons_succ]
            refine wpAnyH_take (i := 11) (oi := _) (v := ?_) rfl (by kernel_rfl) (by kernel_rfl) (by kernel_rfl) (fun _ _ _ h => h) (Or.inl ⟨by kernel_rfl, ?_⟩) (by assumption) ?_
            rotate_left
            · intro w hSw; (try dsimp only at hSw); go_simp; first | done | with_reducible rfl
            try simp only [List.getElem_toArray, List.getElem_cons_zero, List.getElem_cons_succ, Act.put, List.setIfInBounds_toArray, List.set_cons_zero, List.set_cons_succ]
            refine wpAnyH_done (by kernel_rfl) ?_ _
            clear hHeld
            go_wp2
            refine ⟨⟨k + 1, by omega, by first | go_num | simp, X2, B, OA, Z2, Z3, OL, m', p6, p7, rfl, X6, X7, hm1, hm2, ?_⟩, by simp [intOf]; omega⟩
            have hg2 : ¬ m' < htP h (x, y) - htP h (a, b) := Int.not_lt.2 HGT.out
            rw [take_snoc HQ.out]
            by_cases hl : htP h (a, b) < htP h (lowL h (L.take k) (x, y))
            · rw [lowL_yes hl]
              rcases HST.out with k1 | k1
              · omega
              · exact .inr ⟨by omega, k1.2.1, k1.2.2.1, k1.2.2.2⟩
            · rw [lowL_no hl]
              exact HST.out
        · obtain rfl : k = m := by omega
          have hall : L.take k = L := by rw [HM.out, List.take_length]
          have hst2 := HST.out
          rw [hall, ← HDF.out] at hst2
          have HST2 := Lib.hid hst2
          clear hall hst2
          go_wp2
          rcases HST2.out with ⟨e1, e2, e3, e4⟩ | ⟨e1, e2, e3, e4⟩
          · refine ⟨⟨i + 1, by omega, by first | go_num | simp, X2, B, OA, Z2, Z3, ?_, p6, p7, X6, X7, fun _ => ?_⟩, by simp [intOf]; omega⟩
            · rw [HY.out e1, e2]
            · rw [HY.out e1]
              refine ⟨by rw [HXY.out]; exact e3, ?_⟩
              rw [e4, e3, HLO.out]
          · refine ⟨⟨i + 1, by omega, by first | go_num | simp, X2, B, OA, Z2, Z3, ?_, p6, p7, X6, X7, fun h0 => ?_⟩, by simp [intOf]; omega⟩
            · rw [HNO.out (by omega), e2, HM0.out]
            · rw [HNO.out (by omega)] at h0 ⊢
              rw [e3, e4]
              exact HQ6.out (by rw [HM0.out]; exact h0)
    · obtain rfl : i = N := by omega
      have hkN := HK.out
      obtain ⟨M0, hM0⟩ : ∃ M0, M0 = (bS (fun i => dF W H h (cl W i)) i).2 := ⟨_, rfl⟩
      have hz3 := Z3.lt
      have hs6 := X6.lt
      have hs7 := X7.lt
      rw [← hM0]
      rcases HZ.out with hzz | hzz
      · have hM1 : M0 = 0 := by rw [hM0]; exact HBL.out.1 (by rw [← HK.out]; exact hzz.1)
        obtain ⟨rfl, rfl, rfl, rfl, rfl, rfl⟩ := hzz.2
        clear hM0 hkN HK
        subst hM1
        have f20 := Z2.frozen 0
        have f21 := Z2.frozen 1
        have f30 := Z3.frozen 0
        have f31 := Z3.frozen 1
        have s20 := Z2.cell 0
        have s21 := Z2.cell 1
        have s30 := Z3.cell 0
        have s31 := Z3.cell 1
        simp only [List.getElem?_toArray, List.getElem?_cons_zero, List.getElem?_cons_succ] at s20 s21 s30 s31
        go_wp2
        have Y2 := (((Z2.set 0 (.int .i8 0)).set 1 (.int .i8 0)).other (g := w.heap.size + 1 + 1) (o := 0) (.int .i8 0) (by omega)).other (g := w.heap.size + 1 + 1) (o := 1) (.int .i8 0) (by omega)
        have Y3 := (((Z3.other (g := w.heap.size + 1) (o := 0) (.int .i8 0) (by omega)).other (g := w.heap.size + 1) (o := 1) (.int .i8 0) (by omega)).set 0 (.int .i8 0)).set 1 (.int .i8 0)
        have q20 := Y2.cell 0
        have q21 := Y2.cell 1
        have q30 := Y3.cell 0
        have q31 := Y3.cell 1
        simp at q20 q21 q30 q31
        exact bodyPost_ret (v := .tuple #[.agg #[.int .i8 0, .int .i8 0], .agg #[.int .i8 0, .int .i8 0], .int .i64 0, .int .i64 6]) (by simp [results, Try.results48, go_sem, q20, q21, q30, q31]) rfl ⟨((((B.setCell (p := ⟨w.heap.size + 1, 0, none⟩) (by show w.heap.size ≤ w.heap.size + 1; omega) (.int .i8 0)).setCell (p := ⟨w.heap.size + 1, 1, none⟩) (by show w.heap.size ≤ w.heap.size + 1; omega) (.int .i8 0)).setCell (p := ⟨w.heap.size + 1 + 1, 0, none⟩) (by show w.heap.size ≤ w.heap.size + 1 + 1; omega) (.int .i8 0)).setCell (p := ⟨w.heap.size + 1 + 1, 1, none⟩) (by show w.heap.size ≤ w.heap.size + 1 + 1; omega) (.int .i8 0)), rfl⟩
      · have hbe := HBL.out.2 (by rw [← HK.out]; exact hzz.1)
        rw [← HK.out] at hbe
        have hd0 := hzz.1
        have hM1 : M0 = dF W H h (cl W k) := by rw [hM0, hbe]
        have hq := HQ6.out (by rw [hbe]; exact hd0)
        rw [hbe] at hq
        dsimp only at hq
        obtain ⟨hq6, hq7⟩ := hq
        have hMb : (M0 == 0) = false := by rw [hM1]; simpa using hd0
        obtain ⟨rfl, rfl, rfl, rfl, rfl, rfl⟩ := hzz.2
        obtain ⟨⟨x, y⟩, hxy⟩ : ∃ q, q = q6 := ⟨_, rfl⟩
        obtain ⟨⟨px, py⟩, hpq⟩ : ∃ q, q = q7 := ⟨_, rfl⟩
        rw [← hxy] at X6 hq6 hq7
        rw [← hpq] at X7 hq7
        have HE1 := Lib.hid hq6
        have HE2 := Lib.hid hq7
        have HE3 := Lib.hid hM1
        clear hq6 hq7 hM1 hM0 hbe hd0 hxy hpq hkN
        have X8 : Bx wo (w1.heap.size) #[.int .i8 (x : Int), .int .i8 (y : Int)] 40 := X6
        have X10 : Bx wo (w1.heap.size + 1) #[.int .i8 (px : Int), .int .i8 (py : Int)] 40 := X7
        clear X6 X7
        have c80 := X8.cell 0
        have c81 := X8.cell 1
        have c10 := X10.cell 0
        have c11 := X10.cell 1
        simp only [List.getElem?_toArray, List.getElem?_cons_zero, List.getElem?_cons_succ] at c80 c81 c10 c11
        have f20 := Z2.frozen 0
        have f21 := Z2.frozen 1
        have f30 := Z3.frozen 0
        have f31 := Z3.frozen 1
        have s20 := Z2.cell 0
        have s21 := Z2.cell 1
        have s30 := Z3.cell 0
        have s31 := Z3.cell 1
        simp only [List.getElem?_toArray, List.getElem?_cons_zero, List.getElem?_cons_succ] at s20 s21 s30 s31
        go_upto_region 21 with fail
        refine wp_region_held_drew (S := (fun w' : World => w'.cell? ⟨w1.heap.size, 0, none⟩ = some (.int .i8 (x : Int)) ∧ w'.cell? ⟨w1.heap.size, 1, none⟩ = some (.int .i8 (y : Int)) ∧ w'.cell? ⟨(w1.heap.size + 1), 0, none⟩ = some (.int .i8 (px : Int)) ∧ w'.cell? ⟨(w1.heap.size + 1), 1, none⟩ = some (.int .i8 (py : Int)))) (by kernel_rfl) ⟨c80, c81, c10, c11⟩ (fun hHeld => ?_)
        refine wpAnyH_take (i := 0) (oi := _) (v := ?_) rfl (by kernel_rfl) (by kernel_rfl) (by kernel_rfl) (fun _ _ _ h => h) (Or.inl ⟨by kernel_rfl, ?_⟩) (by assumption) ?_
        rotate_left
        · intro w hSw; (try dsimp only at hSw); go_simp; first | done | with_reducible rfl
        try simp only [List.getElem_toArray, List.getElem_cons_zero, List.getElem_cons_succ, Act.put, List.setIfInBounds_toArray, List.set_cons_zero, List.set_cons_succ]
        refine wpAnyH_take (i := 1) (oi := _) (v := ?_) rfl (by kernel_rfl) (by kernel_rfl) (by kernel_rfl) (fun _ _ _ h => h) (Or.inl ⟨by kernel_rfl, ?_⟩) (by assumption) ?_
        rotate_left
        · intro w hSw; (try dsimp only at hSw); go_simp; first | done | with_reducible rfl
        try simp only [List.getElem_toArray, List.getElem_cons_zero, List.getElem_cons_succ, Act.put, List.setIfInBounds_toArray, List.set_cons_zero, List.set_cons_succ]
        refine wpAnyH_take (i := 2) (oi := _) (v := ?_) rfl (by kernel_rfl) (by kernel_rfl) (by kernel_rfl) (fun _ _ _ h => h) (Or.inl ⟨by kernel_rfl, ?_⟩) (by assumption) ?_
        rotate_left
        · intro w hSw; (try dsimp only at hSw); go_simp; first | done | with_reducible rfl
        try simp only [List.getElem_toArray, List.getElem_cons_zero, List.getElem_cons_succ, Act.put, List.setIfInBounds_toArray, List.set_cons_zero, List.set_cons_succ]
        replace Z2 := Z2.drew
        replace Z3 := Z3.drew
        replace X8 := X8.drew
        replace X10 := X10.drew
        replace B := B.drew
        clear f20 f21 f30 f31 s20 s21 s30 s31 c80 c81 c10 c11
        generalize World.drew _ = wd at Z2 Z3 X8 X10 B hHeld ⊢
        have hz3 := Z3.lt
        have f20 := Z2.frozen 0
        have f21 := Z2.frozen 1
        have s20 := Z2.cell 0
        have s21 := Z2.cell 1
        simp only [List.getElem?_toArray, List.getElem?_cons_zero, List.getElem?_cons_succ] at s20 s21
        have Z2' := (Z2.set 0 (.int .i8 (x : Int))).set 1 (.int .i8 (y : Int))
        have Z3' := (Z3.other (g := w.heap.size + 1) (o := 0) (.int .i8 (x : Int)) (by omega)).other (g := w.heap.size + 1) (o := 1) (.int .i8 (y : Int)) (by omega)
        have X8' := (X8.other (g := w.heap.size + 1) (o := 0) (.int .i8 (x : Int)) (by omega)).other (g := w.heap.size + 1) (o := 1) (.int .i8 (y : Int)) (by omega)
        have X10' := (X10.other (g := w.heap.size + 1) (o := 0) (.int .i8 (x : Int)) (by omega)).other (g := w.heap.size + 1) (o := 1) (.int .i8 (y : Int)) (by omega)
        have B' := (B.setCell (p := ⟨w.heap.size + 1, 0, none⟩) (by show w.heap.size ≤ w.heap.size + 1; omega) (.int .i8 (x : Int))).setCell (p := ⟨w.heap.size + 1, 1, none⟩) (by show w.heap.size ≤ w.heap.size + 1; omega) (.int .i8 (y : Int))
        refine wpAnyH_ready (rs := [3]) (by kernel_rfl) (by simp) ?_
        refine AllReadyH.cons (o := _) rfl (fun K hK => ?_) AllReadyH.nil
        go_simp
        refine hK.out _ _ ⟨X8'.cell 0, X8'.cell 1, X10'.cell 0, X10'.cell 1⟩ (fun hHeld => ?_)
        clear hK K
        try simp only [List.getElem_toArray, List.getElem_cons_zero, List.getElem_cons_succ, Act.put, List.setIfInBounds_toArray, List.set_cons_zero, List.set_cons_succ]
        obtain ⟨we, hwe⟩ : ∃ we : World, we = (wd.setCell ⟨w.heap.size + 1, 0, none⟩ (.int .i8 (x : Int))).setCell ⟨w.heap.size + 1, 1, none⟩ (.int .i8 (y : Int)) := ⟨_, rfl⟩
        rw [← hwe] at Z2' Z3' X8' X10' B' hHeld ⊢
        clear hwe f20 f21 s20 s21 Z2 Z3 X8 X10 B
        have f30 := Z3'.frozen 0
        have f31 := Z3'.frozen 1
        have s30 := Z3'.cell 0
        have s31 := Z3'.cell 1
        simp only [List.getElem?_toArray, List.getElem?_cons_zero, List.getElem?_cons_succ] at s30 s31
        have X8q := (X8'.other (g := w.heap.size + 1 + 1) (o := 0) (.int .i8 (px : Int)) (by omega)).other (g := w.heap.size + 1 + 1) (o := 1) (.int .i8 (py : Int)) (by omega)
        have X10q := (X10'.other (g := w.heap.size + 1 + 1) (o := 0) (.int .i8 (px : Int)) (by omega)).other (g := w.heap.size + 1 + 1) (o := 1) (.int .i8 (py : Int)) (by omega)
        have Y2 := (Z2'.other (g := w.heap.size + 1 + 1) (o := 0) (.int .i8 (px : Int)) (by omega)).other (g := w.heap.size + 1 + 1) (o := 1) (.int .i8 (py : Int)) (by omega)
        have Y3 := (Z3'.set 0 (.int .i8 (px : Int))).set 1 (.int .i8 (py : Int))
        refine wpAnyH_ready (rs := [4]) (by kernel_rfl) (by simp) ?_
        refine AllReadyH.cons (o := _) rfl (fun K hK => ?_) AllReadyH.nil
        go_simp
        refine hK.out _ _ ⟨X8q.cell 0, X8q.cell 1, X10q.cell 0, X10q.cell 1⟩ (fun hHeld => ?_)
        clear hK K
        try simp only [List.getElem_toArray, List.getElem_cons_zero, List.getElem_cons_succ, Act.put, List.setIfInBounds_toArray, List.set_cons_zero, List.set_cons_succ]
        refine wpAnyH_take (i := 5) (oi := _) (v := ?_) rfl (by kernel_rfl) (by kernel_rfl) (by kernel_rfl) (fun _ _ _ h => h) (Or.inl ⟨by kernel_rfl, ?_⟩) (by assumption) ?_
        rotate_left
        · intro w hSw; (try dsimp only at hSw); go_simp; first | done | with_reducible rfl
        try simp only [List.getElem_toArray, List.getElem_cons_zero, List.getElem_cons_succ, Act.put, List.setIfInBounds_toArray, List.set_cons_zero, List.set_cons_succ]
        refine wpAnyH_take (i := 6) (oi := _) (v := ?_) rfl (by kernel_rfl) (by kernel_rfl) (by kernel_rfl) (fun _ _ _ h => h) (Or.inl ⟨by kernel_rfl, ?_⟩) (by assumption) ?_
        rotate_left
        · intro w hSw; (try dsimp only at hSw); go_simp; first | done | with_reducible rfl
        try simp only [List.getElem_toArray, List.getElem_cons_zero, List.getElem_cons_succ, Act.put, List.setIfInBounds_toArray, List.set_cons_zero, List.set_cons_succ]
        refine wpAnyH_done (by kernel_rfl) ?_ _
        have q20 := Y2.cell 0
        have q21 := Y2.cell 1
        have q30 := Y3.cell 0
        have q31 := Y3.cell 1
        simp at q20 q21 q30 q31
        go_wp2
        exact bodyPost_ret (v := .tuple #[.agg #[.int .i8 (x : Int), .int .i8 (y : Int)], .agg #[.int .i8 (px : Int), .int .i8 (py : Int)], .int .i64 M0, .int .i64 0]) (by simp [results, Try.results48, go_sem, q20, q21, q30, q31]) rfl ⟨(B'.setCell (p := ⟨w.heap.size + 1 + 1, 0, none⟩) (by show w.heap.size ≤ w.heap.size + 1 + 1; omega) (.int .i8 (px : Int))).setCell (p := ⟨w.heap.size + 1 + 1, 1, none⟩) (by show w.heap.size ≤ w.heap.size + 1 + 1; omega) (.int .i8 (py : Int)), by rw [HE3.out, ← HE1.out, ← HE2.out]⟩

theorem both (X Y : Int) (h : Nat → Int) (n : Nat) (c : Nat → Int) (hX : -128 ≤ X ∧ X ≤ 127) (hY : -128 ≤ Y ∧ Y ≤ 127) (hh : ∀ p, -32768 ≤ h p ∧ h p ≤ 32767) (hc : ∀ j, -128 ≤ c j ∧ c j ≤ 127) (hm : n ≤ 1048576) :
    ∃ (p0 q0 : Int) (p1 q1 : Int) (z2 : Int) (z3 : Int), (∀ (W : World) (g : Nat), Ac W g n c → Calls Try.prog 48 #[.agg (gV X Y h (.slice (some ⟨g, 0, none⟩) n n))] W fun e w' => Below W.heap.size W w' ∧ e = .returned (.tuple #[.agg #[.int .i8 p0, .int .i8 q0], .agg #[.int .i8 p1, .int .i8 q1], .int .i64 z2, .int .i64 z3])) ∧
      (∀ (W : World) (g : Nat), Ac W g n c → Calls Try.prog 49 #[.agg (gV X Y h (.slice (some ⟨g, 0, none⟩) n n))] W fun e w' => Below W.heap.size W w' ∧ e = .returned (.tuple #[.agg #[.int .i8 p0, .int .i8 q0], .agg #[.int .i8 p1, .int .i8 q1], .int .i64 z2, .int .i64 z3])) := by
  by_cases hv : GValid X Y h n c
  · obtain ⟨W', rfl⟩ := Int.eq_ofNat_of_zero_le (show 0 ≤ X by have := hv.1.1; omega)
    obtain ⟨H', rfl⟩ := Int.eq_ofNat_of_zero_le (show 0 ≤ Y by have := hv.1.2.1; omega)
    by_cases hd : dF W' H' h (cl W' (lsS (fun i => - dF W' H' h (cl W' i)) (W' * H')).1) = 0
    · exact ⟨0, 0, 0, 0, 0, 6, fun W g A => spec_in W' H' h g n c W hh hc A hv _ _ _ _ _ _ _ rfl (.inl ⟨hd, rfl, rfl, rfl, rfl, rfl, rfl⟩), fun W g A => impl_in W' H' h g n c W hh hc A hv _ _ _ _ _ _ _ rfl (.inl ⟨hd, rfl, rfl, rfl, rfl, rfl, rfl⟩)⟩
    · exact ⟨_, _, _, _, _, 0, fun W g A => spec_in W' H' h g n c W hh hc A hv _ _ _ _ _ _ _ rfl (.inr ⟨hd, rfl, rfl, rfl, rfl, rfl, rfl⟩), fun W g A => impl_in W' H' h g n c W hh hc A hv _ _ _ _ _ _ _ rfl (.inr ⟨hd, rfl, rfl, rfl, rfl, rfl, rfl⟩)⟩
  · exact ⟨0, 0, 0, 0, 0, 1, fun W g A => spec_bad X Y h g n c W hX hY hh hc hm A hv, fun W g A => impl_bad X Y h g n c W hX hY hh hc hm A hv⟩
end steepestFall
end Go.Proofs.Ytegnhpanlbfmdaa
