/-
  Both sides of FlatSteps answer the same. Conditions stand at each.
-/
import Derived.Test.YtegnhpanlbfmdaaRows
import Derived.Test.YtegnhpanlbfmdaaFlatM
import Derived.Test.YtegnhpanlbfmdaaShortI
import Derived.Test.YtegnhpanlbfmdaaDrawR
import Derived.Deep.Cut
namespace Go.Proofs.Ytegnhpanlbfmdaa
open Go Go.ChangeShapes Go.WideShapes Go.ChangeAt Go.RowKit Go.Shelf
set_option linter.unusedVariables false
set_option linter.unusedSimpArgs false
set_option maxRecDepth 100000
set_option maxHeartbeats 4000000

attribute [local go_sem] Oper.semAt_some
namespace flatSteps
theorem spec_bad (X Y : Int) (h : Nat → Int) (g n : Nat) (c : Nat → Int) (w : World) (hX : -128 ≤ X ∧ X ≤ 127) (hY : -128 ≤ Y ∧ Y ≤ 127) (hh : ∀ p, -32768 ≤ h p ∧ h p ≤ 32767) (hc : ∀ j, -128 ≤ c j ∧ c j ≤ 127) (hm : n ≤ 1048576) (hA : Ac w g n c) (hz : ¬ GValid X Y h n c) :
    Calls Try.prog 50 #[.agg (gV X Y h (.slice (some ⟨g, 0, none⟩) n n))] w fun e w' => Below w.heap.size w w' ∧ e = .returned (.tuple #[.int .i64 0, .int .i64 1]) := by
  have HH := Lib.hid hh
  have HC := Lib.hid hc
  clear hh hc
  have X2 := Bx.new w (gV X Y h (.slice (some ⟨g, 0, none⟩) n n)) 33
  have B := al (Below.refl w.heap.size w) (.cells (gV X Y h (.slice (some ⟨g, 0, none⟩) n n)) 33)
  replace hA := hA.alloc (.cells (gV X Y h (.slice (some ⟨g, 0, none⟩) n n)) 33)
  go_enter Try.func50, Try.ntmps50
  go_wp2_with fail
  refine (gok_any X Y h w.heap.size _ n n c _ hX hY HH.out HC.out hm X2 hA.rd).mono ?_
  rintro e w1 ⟨hb, ⟨hv, rfl⟩ | ⟨hv, rfl⟩⟩
  · exact absurd hv hz
  replace B := nxt B hb
  clear hb
  clear hv hz X2 hA
  go_wp2
  exact bodyPost_ret (results_tmp2 Try.results50 _ _ _) rfl ⟨B, rfl⟩
theorem impl_bad (X Y : Int) (h : Nat → Int) (g n : Nat) (c : Nat → Int) (w : World) (hX : -128 ≤ X ∧ X ≤ 127) (hY : -128 ≤ Y ∧ Y ≤ 127) (hh : ∀ p, -32768 ≤ h p ∧ h p ≤ 32767) (hc : ∀ j, -128 ≤ c j ∧ c j ≤ 127) (hm : n ≤ 1048576) (hA : Ac w g n c) (hz : ¬ GValid X Y h n c) :
    Calls Try.prog 51 #[.agg (gV X Y h (.slice (some ⟨g, 0, none⟩) n n))] w fun e w' => Below w.heap.size w w' ∧ e = .returned (.tuple #[.int .i64 0, .int .i64 1]) := by
  have HH := Lib.hid hh
  have HC := Lib.hid hc
  clear hh hc
  have X2 := Bx.new w (gV X Y h (.slice (some ⟨g, 0, none⟩) n n)) 33
  have B := al (Below.refl w.heap.size w) (.cells (gV X Y h (.slice (some ⟨g, 0, none⟩) n n)) 33)
  replace hA := hA.alloc (.cells (gV X Y h (.slice (some ⟨g, 0, none⟩) n n)) 33)
  go_enter Try.func51, Try.ntmps51
  go_wp2_with (refine wpList_load_box X2 rfl _ _ rfl rfl _ Try.underlying33 rfl (infoGv _ _ _ _) ?_)
  refine (landOf_any X Y h g n c _ hX hY HH.out HC.out hm hA).mono ?_
  rintro e w1 ⟨hb, ⟨hv, p, m, rfl, hpm, hmp, hL⟩ | ⟨hv, rfl⟩⟩
  · exact absurd hv hz
  replace B := nxt B hb
  clear hb
  clear hv hz X2 hA
  go_wp2
  exact bodyPost_ret (results_tmp2 Try.results51 _ _ _) rfl ⟨al B _, rfl⟩

theorem spec_in (W H : Nat) (h : Nat → Int) (g n : Nat) (c : Nat → Int) (w : World) (hh : ∀ p, -32768 ≤ h p ∧ h p ≤ 32767) (hc : ∀ j, -128 ≤ c j ∧ c j ≤ 127) (hA : Ac w g n c) (hv : GValid W H h n c) :
    Calls Try.prog 50 #[.agg (gV W H h (.slice (some ⟨g, 0, none⟩) n n))] w fun e w' => Below w.heap.size w w' ∧ e = .returned (.tuple #[.int .i64 ((sN (fun i => flS W H h (cl W i)) (W * H) : Nat) : Int), .int .i64 0]) := by
  have hX : 1 ≤ (W : Int) ∧ (W : Int) ≤ 9 := hv.1.1
  have hY : 1 ≤ (H : Int) ∧ (H : Int) ≤ 9 := hv.1.2.1
  have h8 : n ≤ 8 := hv.1.2.2
  have hW : W ≤ 9 := by omega
  have hH : H ≤ 9 := by omega
  have HV := Lib.hid hv
  have HH := Lib.hid hh
  have HC := Lib.hid hc
  have H2 := Lib.hid (flat_twice W H h (by omega) (by omega))
  clear hv hh hc
  have X2 := Bx.new w (gV W H h (.slice (some ⟨g, 0, none⟩) n n)) 33
  have B := al (Below.refl w.heap.size w) (.cells (gV W H h (.slice (some ⟨g, 0, none⟩) n n)) 33)
  replace hA := hA.alloc (.cells (gV W H h (.slice (some ⟨g, 0, none⟩) n n)) 33)
  have hB := X2
  go_enter Try.func50, Try.ntmps50
  go_wp2_with fail
  refine (gok_any W H h w.heap.size _ n n c _ (by omega) (by omega) HH.out HC.out (by omega) X2 hA.rd).mono ?_
  rintro e w1 ⟨hb, ⟨hv, rfl⟩ | ⟨hv, rfl⟩⟩
  case inr => exact absurd HV.out hv
  replace X2 := X2.below hb
  replace B := nxt B hb
  clear hb
  clear hv hA hB
  have hB := X2
  have hlt0 := hB.lt
  go_wp2_with fail
  refine (gall_any W H w.heap.size h _ _ (by omega) hW hH X2).mono ?_
  rintro e w2 ⟨hb, va, rfl, OA⟩
  obtain ⟨N, hN⟩ : ∃ N, N = W * H := ⟨_, rfl⟩
  rw [← hN] at OA H2
  obtain ⟨Aa, capa, rfl, hAa⟩ := OwnC.form OA
  rw [allC_length] at OA hAa ⊢
  have hs1 := B.size
  have hs2 := hb.size
  replace X2 := X2.below hb
  replace B := nxt B hb
  clear hb
  replace OA : OwnC w2 (w.heap.size + 1) _ _ := World.ownsRow.mono OA (by omega)
  have hN81 : N ≤ 81 := by rw [hN]; exact Nat.mul_le_mul hW hH
  have HN := Lib.hid hN
  clear hN
  go_wp2_with fail
  go_loopw [4, 6, 7, 8] (fun t4 t6 t7 t8 wr => ∃ i : Nat, i ≤ N ∧ t6 = .int .i64 i ∧ Bx wr w.heap.size (gV W H h (.slice (some ⟨g, 0, none⟩) n n)) 33 ∧ Below w.heap.size w wr ∧ OwnC wr (w.heap.size + 1) (.slice Aa N capa) (allC W N) ∧ t4 = .int .i64 ((sN (fun i => flT W H h (cl W i)) i : Nat) : Int)) (fun t4 t6 t7 t8 _ => N - (intOf t6).toNat)
  case atStart => exact ⟨0, by omega, rfl, X2, B, OA, rfl⟩
  case round =>
    clear B OA X2
    obtain ⟨i, hi, rfl, X2, B, OA, rfl⟩ := hrel
    obtain ⟨wo, rfl⟩ : ∃ wo : World, wo = wr := ⟨_, rfl⟩
    have hcb : sN (fun i => flT W H h (cl W i)) i ≤ i * 4 := sN_le i fun j => flT_le _
    have HS := Lib.hid (show sN (fun i => flT W H h (cl W i)) (i + 1) = sN (fun i => flT W H h (cl W i)) i + flT W H h (cl W i) from rfl)
    by_cases hlt : i < N
    · have hii : (i : Int) < N := by omega
      obtain ⟨ga, rfl, hga, _⟩ := hAa (by omega)
      obtain ⟨x, y, hxy⟩ : ∃ x y, cl W i = (x, y) := ⟨_, _, rfl⟩
      have hbd := cl_lt (by omega : W ≤ 12) (by omega : H ≤ 12) (show i < W * H by rw [← HN.out]; exact hlt)
      rw [hxy] at hbd HS
      generalize sN (fun i => flT W H h (cl W i)) i = ct at hcb HS ⊢
      obtain ⟨hx, hy⟩ := hbd
      dsimp only at hx hy
      obtain ⟨c0, c1⟩ := OwnC.get OA (allC_length W N) (q := (x, y)) (by rw [allC_get W N i hlt, hxy])
      dsimp only at c0 c1
      have HXY := Lib.hid hxy
      clear hxy
      have hxi : (x : Int) < 9 := by omega
      have hyi : (y : Int) < 9 := by omega
      go_wp2_with fail
      refine (gbes_any W H x y h _ w.heap.size _ hW hH hx hy X2).mono ?_
      rintro e w3 ⟨hb, v, rfl, OL⟩
      have hL : ∀ q ∈ besL W H x y, q.1 < W ∧ q.2 < H := fun q hq => besK_mem hq
      have hm4 : (besL W H x y).length ≤ 4 := besK_length 4
      have hft : flT W H h (x, y) = (besL W H x y).countP (eqH h (x, y)) := rfl
      rw [hft] at HS
      generalize besL W H x y = L at OL hL hm4 HS
      obtain ⟨m, hm⟩ : ∃ m, m = L.length := ⟨_, rfl⟩
      obtain ⟨A2, cap2, rfl, hA2⟩ := OL.form
      rw [← hm] at OL hA2 hm4 ⊢
      have hs3 := X2.lt
      replace X2 := X2.below hb
      replace OA := OwnC.below OA hb
      replace B := nxt B hb
      replace OL : OwnC w3 (w.heap.size + 1) _ L := World.ownsRow.mono OL (by omega)
      have HL := Lib.hid hL
      have HM := Lib.hid hm
      clear hb hL hm c0 c1 hft
      go_wp2_with fail
      go_loopw [4, 8] (fun t4 t8 wr => ∃ k : Nat, k ≤ m ∧ t8 = .int .i64 k ∧ Bx wr w.heap.size (gV W H h (.slice (some ⟨g, 0, none⟩) n n)) 33 ∧ Below w.heap.size w wr ∧ OwnC wr (w.heap.size + 1) (.slice (some ⟨ga, 0, none⟩) N capa) (allC W N) ∧
        OwnC wr (w.heap.size + 1) (.slice A2 m cap2) L ∧ ∃ r : Nat, t4 = .int .i64 (r : Int) ∧ r = ct + (L.take k).countP (eqH h (x, y))) (fun t4 t8 _ => m - (intOf t8).toNat)
      case atStart => exact ⟨0, by omega, rfl, X2, B, OA, OL, ct, rfl, by simp⟩
      case round =>
        clear B X2 OA OL
        obtain ⟨k, hk, rfl, X1, B, OA, OL, r, rfl, hrk⟩ := hrel
        obtain ⟨wi, rfl⟩ : ∃ wi : World, wi = wr := ⟨_, rfl⟩
        have hr4 : r ≤ i * 4 + 4 := by
          have : (L.take k).countP (eqH h (x, y)) ≤ (L.take k).length := List.countP_le_length
          rw [List.length_take] at this
          omega
        have HRK := Lib.hid hrk
        clear hrk
        by_cases hlk : k < m
        · have hki : (k : Int) < m := by omega
          obtain ⟨gb, rfl, hgb, _⟩ := hA2 (by omega)
          have hq : L[k]? = some (L[k]'(by rw [← HM.out]; exact hlk)) := List.getElem?_eq_getElem _
          obtain ⟨⟨a, b⟩, hq⟩ : ∃ q, L[k]? = some q := ⟨_, hq⟩
          obtain ⟨hqa, hqb⟩ := HL.out _ (List.mem_of_getElem? hq)
          dsimp only at hqa hqb
          obtain ⟨d0, d1⟩ := OwnC.get OL HM.out.symm hq
          dsimp only at d0 d1
          obtain ⟨c0, c1⟩ := OwnC.get OA (allC_length W N) (q := (x, y)) (by rw [allC_get W N i hlt, HXY.out])
          dsimp only at c0 c1
          have HQ := Lib.hid hq
          clear hq
          by_cases he : h (y * 9 + x) = h (b * 9 + a)
          · have HE := Lib.hid he
            have hec : eqH h (x, y) (a, b) = true := by unfold eqH htP; simpa using he
            have HEC := Lib.hid hec
            have hbq : (h (y * 9 + x) == h (b * 9 + a)) = true := by simpa using he
            clear he hec
            have hr81 : (r : Int) + 1 ≤ 1000 := by omega
            go_wp2
            refine wp_region_held_drew (S := (fun w' : World => w'.cell? ⟨ga, i * 2, none⟩ = some (.int .i8 (x : Int)) ∧ w'.cell? ⟨ga, i * 2 + 1, none⟩ = some (.int .i8 (y : Int)) ∧ w'.cell? ⟨gb, k * 2, none⟩ = some (.int .i8 (a : Int)) ∧ w'.cell? ⟨gb, k * 2 + 1, none⟩ = some (.int .i8 (b : Int)))) (by kernel_rfl) ⟨c0, c1, d0, d1⟩ (fun hHeld => ?_)
            refine wpAnyH_take (i := 0) (oi := _) (v := ?_) rfl (by kernel_rfl) (by kernel_rfl) (by kernel_rfl) (fun _ _ _ h => h) (Or.inl ⟨by kernel_rfl, ?_⟩) (by assumption) ?_
            rotate_left
            · intro w hSw; (try dsimp only at hSw); go_simp; first | done | with_reducible rfl
            try simp only [List.getElem_toArray, List.getElem_cons_zero, List.getElem_cons_succ, Act.put, List.setIfInBounds_toArray, List.set_cons_zero, List.set_cons_succ]
            refine wpAnyH_take (i := 1) (oi := _) (v := ?_) rfl (by kernel_rfl) (by kernel_rfl) (by kernel_rfl) (fun _ _ _ h => h) (Or.inl ⟨by kernel_rfl, ?_⟩) (by assumption) ?_
            rotate_left
            · intro w hSw; (try dsimp only at hSw); go_simp; first | done | with_reducible rfl
            try simp only [List.getElem_toArray, List.getElem_cons_zero, List.getElem_cons_succ, Act.put, List.setIfInBounds_toArray, List.set_cons_zero, List.set_cons_succ]
            refine wpAnyH_take (i := 2) (oi := _) (v := ?_) rfl (by kernel_rfl) (by kernel_rfl) (by kernel_rfl) (fun _ _ _ h => h) (Or.inl ⟨by kernel_rfl, ?_⟩) (by assumption) ?_
            rotate_left
            · intro w hSw; (try dsimp only at hSw); go_simp; first | done | with_reducible rfl
            try simp only [List.getElem_toArray, List.getElem_cons_zero, List.getElem_cons_succ, Act.put, List.setIfInBounds_toArray, List.set_cons_zero, List.set_cons_succ]
            refine wpAnyH_take (i := 3) (oi := _) (v := ?_) rfl (by kernel_rfl) (by kernel_rfl) (by kernel_rfl) (fun _ _ _ h => h) (Or.inl ⟨by kernel_rfl, ?_⟩) (by assumption) ?_
            rotate_left
            · intro w hSw; (try dsimp only at hSw); go_simp; first | done | with_reducible rfl
            try simp only [List.getElem_toArray, List.getElem_cons_zero, List.getElem_cons_succ, Act.put, List.setIfInBounds_toArray, List.set_cons_zero, List.set_cons_succ]
            refine wpAnyH_take (i := 5) (oi := _) (v := ?_) rfl (by kernel_rfl) (by kernel_rfl) (by kernel_rfl) (fun _ _ _ h => h) (Or.inl ⟨by kernel_rfl, ?_⟩) (by assumption) ?_
            rotate_left
            · intro w hSw; (try dsimp only at hSw); go_simp; first | done | with_reducible rfl
            try simp only [List.getElem_toArray, List.getElem_cons_zero, List.getElem_cons_succ, Act.put, List.setIfInBounds_toArray, List.set_cons_zero, List.set_cons_succ]
            refine wpAnyH_take (i := 6) (oi := _) (v := ?_) rfl (by kernel_rfl) (by kernel_rfl) (by kernel_rfl) (fun _ _ _ h => h) (Or.inl ⟨by kernel_rfl, ?_⟩) (by assumption) ?_
            rotate_left
            · intro w hSw; (try dsimp only at hSw); go_simp; first | done | with_reducible rfl
            try simp only [List.getElem_toArray, List.getElem_cons_zero, List.getElem_cons_succ, Act.put, List.setIfInBounds_toArray, List.set_cons_zero, List.set_cons_succ]
            refine wpAnyH_take (i := 7) (oi := _) (v := ?_) rfl (by kernel_rfl) (by kernel_rfl) (by kernel_rfl) (fun _ _ _ h => h) (Or.inl ⟨by kernel_rfl, ?_⟩) (by assumption) ?_
            rotate_left
            · intro w hSw; (try dsimp only at hSw); go_simp; first | done | with_reducible rfl
            try simp only [List.getElem_toArray, List.getElem_cons_zero, List.getElem_cons_succ, Act.put, List.setIfInBounds_toArray, List.set_cons_zero, List.set_cons_succ]
            refine wpAnyH_take (i := 8) (oi := _) (v := ?_) rfl (by kernel_rfl) (by kernel_rfl) (by kernel_rfl) (fun _ _ _ h => h) (Or.inl ⟨by kernel_rfl, ?_⟩) (by assumption) ?_
            rotate_left
            · intro w hSw; (try dsimp only at hSw); go_simp; first | done | with_reducible rfl
            try simp only [List.getElem_toArray, List.getElem_cons_zero, List.getElem_cons_succ, Act.put, List.setIfInBounds_toArray, List.set_cons_zero, List.set_cons_succ]
            refine wpAnyH_ready (rs := [4]) (by kernel_rfl) (by simp) ?_
            refine AllReadyH.cons (o := _) rfl (fun K hK => ?_) AllReadyH.nil
            go_simp
            refine (gheight_any W H h _ w.heap.size x y _ (by omega) (by omega) HH.out X1.drew).mono ?_
            rintro e w5 ⟨rfl, hb⟩
            replace X1 := X1.drew.below hb
            replace OA := OwnC.below OA.drew hb
            replace OL := OwnC.below OL.drew hb
            replace B := nxt B.drew hb
            clear hb c0 c1 d0 d1
            obtain ⟨c0, c1⟩ := OwnC.get OA (allC_length W N) (q := (x, y)) (by rw [allC_get W N i hlt, HXY.out])
            dsimp only at c0 c1
            obtain ⟨d0, d1⟩ := OwnC.get OL HM.out.symm HQ.out
            dsimp only at d0 d1
            refine hK.out _ _ ⟨c0, c1, d0, d1⟩ (fun hHeld => ?_)
            clear hK K
            try simp only [List.getElem_toArray, List.getElem_cons_zero, List.getElem_cons_succ, Act.put, List.setIfInBounds_toArray, List.set_cons_zero, List.set_cons_succ]
            refine wpAnyH_ready (rs := [9]) (by kernel_rfl) (by simp) ?_
            refine AllReadyH.cons (o := _) rfl (fun K hK => ?_) AllReadyH.nil
            go_simp
            refine (gheight_any W H h _ w.heap.size a b _ (by omega) (by omega) HH.out X1).mono ?_
            rintro e w5 ⟨rfl, hb⟩
            replace X1 := X1.below hb
            replace OA := OwnC.below OA hb
            replace OL := OwnC.below OL hb
            replace B := nxt B hb
            clear hb c0 c1 d0 d1
            obtain ⟨c0, c1⟩ := OwnC.get OA (allC_length W N) (q := (x, y)) (by rw [allC_get W N i hlt, HXY.out])
            dsimp only at c0 c1
            obtain ⟨d0, d1⟩ := OwnC.get OL HM.out.symm HQ.out
            dsimp only at d0 d1
            refine hK.out _ _ ⟨c0, c1, d0, d1⟩ (fun hHeld => ?_)
            clear hK K
            try simp only [List.getElem_toArray, List.getElem_cons_zero, List.getElem_cons_succ, Act.put, List.setIfInBounds_toArray, List.set_cons_zero, List.set_cons_succ]
            refine wpAnyH_take (i := 10) (oi := _) (v := ?_) rfl (by kernel_rfl) (by kernel_rfl) (by kernel_rfl) (fun _ _ _ h => h) (Or.inl ⟨by kernel_rfl, ?_⟩) (by assumption) ?_
            rotate_left
            · intro w hSw; (try dsimp only at hSw); go_simp; first | done | with_reducible rfl
            try simp only [List.getElem_toArray, List.getElem_cons_zero, List.getElem_cons_succ, Act.put, List.setIfInBounds_toArray, List.set_cons_zero, List.set_cons_succ]
            refine wpAnyH_done (by kernel_rfl) ?_ _
            go_wp2
            refine ⟨⟨k + 1, by omega, by first | go_num | simp, X1, B, OA, OL, r + 1, by first | go_num | simp, ?_⟩, by simp [intOf]; omega⟩
            rw [take_snoc HQ.out, List.countP_append, HRK.out]
            simp [HEC.out]
            omega
          · have hec : eqH h (x, y) (a, b) = false := by unfold eqH htP; simpa using he
            have HEC := Lib.hid hec
            have hbq : (h (y * 9 + x) == h (b * 9 + a)) = false := by simpa using he
            clear he hec
            go_wp2
            refine wp_region_held_drew (S := (fun w' : World => w'.cell? ⟨ga, i * 2, none⟩ = some (.int .i8 (x : Int)) ∧ w'.cell? ⟨ga, i * 2 + 1, none⟩ = some (.int .i8 (y : Int)) ∧ w'.cell? ⟨gb, k * 2, none⟩ = some (.int .i8 (a : Int)) ∧ w'.cell? ⟨gb, k * 2 + 1, none⟩ = some (.int .i8 (b : Int)))) (by kernel_rfl) ⟨c0, c1, d0, d1⟩ (fun hHeld => ?_)
            refine wpAnyH_take (i := 0) (oi := _) (v := ?_) rfl (by kernel_rfl) (by kernel_rfl) (by kernel_rfl) (fun _ _ _ h => h) (Or.inl ⟨by kernel_rfl, ?_⟩) (by assumption) ?_
            rotate_left
            · intro w hSw; (try dsimp only at hSw); go_simp; first | done | with_reducible rfl
            try simp only [List.getElem_toArray, List.getElem_cons_zero, List.getElem_cons_succ, Act.put, List.setIfInBounds_toArray, List.set_cons_zero, List.set_cons_succ]
            refine wpAnyH_take (i := 1) (oi := _) (v := ?_) rfl (by kernel_rfl) (by kernel_rfl) (by kernel_rfl) (fun _ _ _ h => h) (Or.inl ⟨by kernel_rfl, ?_⟩) (by assumption) ?_
            rotate_left
            · intro w hSw; (try dsimp only at hSw); go_simp; first | done | with_reducible rfl
            try simp only [List.getElem_toArray, List.getElem_cons_zero, List.getElem_cons_succ, Act.put, List.setIfInBounds_toArray, List.set_cons_zero, List.set_cons_succ]
            refine wpAnyH_take (i := 2) (oi := _) (v := ?_) rfl (by kernel_rfl) (by kernel_rfl) (by kernel_rfl) (fun _ _ _ h => h) (Or.inl ⟨by kernel_rfl, ?_⟩) (by assumption) ?_
            rotate_left
            · intro w hSw; (try dsimp only at hSw); go_simp; first | done | with_reducible rfl
            try simp only [List.getElem_toArray, List.getElem_cons_zero, List.getElem_cons_succ, Act.put, List.setIfInBounds_toArray, List.set_cons_zero, List.set_cons_succ]
            refine wpAnyH_take (i := 3) (oi := _) (v := ?_) rfl (by kernel_rfl) (by kernel_rfl) (by kernel_rfl) (fun _ _ _ h => h) (Or.inl ⟨by kernel_rfl, ?_⟩) (by assumption) ?_
            rotate_left
            · intro w hSw; (try dsimp only at hSw); go_simp; first | done | with_reducible rfl
            try simp only [List.getElem_toArray, List.getElem_cons_zero, List.getElem_cons_succ, Act.put, List.setIfInBounds_toArray, List.set_cons_zero, List.set_cons_succ]
            refine wpAnyH_take (i := 5) (oi := _) (v := ?_) rfl (by kernel_rfl) (by kernel_rfl) (by kernel_rfl) (fun _ _ _ h => h) (Or.inl ⟨by kernel_rfl, ?_⟩) (by assumption) ?_
            rotate_left
            · intro w hSw; (try dsimp only at hSw); go_simp; first | done | with_reducible rfl
            try simp only [List.getElem_toArray, List.getElem_cons_zero, List.getElem_cons_succ, Act.put, List.setIfInBounds_toArray, List.set_cons_zero, List.set_cons_succ]
            refine wpAnyH_take (i := 6) (oi := _) (v := ?_) rfl (by kernel_rfl) (by kernel_rfl) (by kernel_rfl) (fun _ _ _ h => h) (Or.inl ⟨by kernel_rfl, ?_⟩) (by assumption) ?_
            rotate_left
            · intro w hSw; (try dsimp only at hSw); go_simp; first | done | with_reducible rfl
            try simp only [List.getElem_toArray, List.getElem_cons_zero, List.getElem_cons_succ, Act.put, List.setIfInBounds_toArray, List.set_cons_zero, List.set_cons_succ]
            refine wpAnyH_take (i := 7) (oi := _) (v := ?_) rfl (by kernel_rfl) (by kernel_rfl) (by kernel_rfl) (fun _ _ _ h => h) (Or.inl ⟨by kernel_rfl, ?_⟩) (by assumption) ?_
            rotate_left
            · intro w hSw; (try dsimp only at hSw); go_simp; first | done | with_reducible rfl
            try simp only [List.getElem_toArray, List.getElem_cons_zero, List.getElem_cons_succ, Act.put, List.setIfInBounds_toArray, List.set_cons_zero, List.set_cons_succ]
            refine wpAnyH_take (i := 8) (oi := _) (v := ?_) rfl (by kernel_rfl) (by kernel_rfl) (by kernel_rfl) (fun _ _ _ h => h) (Or.inl ⟨by kernel_rfl, ?_⟩) (by assumption) ?_
            rotate_left
            · intro w hSw; (try dsimp only at hSw); go_simp; first | done | with_reducible rfl
            try simp only [List.getElem_toArray, List.getElem_cons_zero, List.getElem_cons_succ, Act.put, List.setIfInBounds_toArray, List.set_cons_zero, List.set_cons_succ]
            refine wpAnyH_ready (rs := [4]) (by kernel_rfl) (by simp) ?_
            refine AllReadyH.cons (o := _) rfl (fun K hK => ?_) AllReadyH.nil
            go_simp
            refine (gheight_any W H h _ w.heap.size x y _ (by omega) (by omega) HH.out X1.drew).mono ?_
            rintro e w5 ⟨rfl, hb⟩
            replace X1 := X1.drew.below hb
            replace OA := OwnC.below OA.drew hb
            replace OL := OwnC.below OL.drew hb
            replace B := nxt B.drew hb
            clear hb c0 c1 d0 d1
            obtain ⟨c0, c1⟩ := OwnC.get OA (allC_length W N) (q := (x, y)) (by rw [allC_get W N i hlt, HXY.out])
            dsimp only at c0 c1
            obtain ⟨d0, d1⟩ := OwnC.get OL HM.out.symm HQ.out
            dsimp only at d0 d1
            refine hK.out _ _ ⟨c0, c1, d0, d1⟩ (fun hHeld => ?_)
            clear hK K
            try simp only [List.getElem_toArray, List.getElem_cons_zero, List.getElem_cons_succ, Act.put, List.setIfInBounds_toArray, List.set_cons_zero, List.set_cons_succ]
            refine wpAnyH_ready (rs := [9]) (by kernel_rfl) (by simp) ?_
            refine AllReadyH.cons (o := _) rfl (fun K hK => ?_) AllReadyH.nil
            go_simp
            refine (gheight_any W H h _ w.heap.size a b _ (by omega) (by omega) HH.out X1).mono ?_
            rintro e w5 ⟨rfl, hb⟩
            replace X1 := X1.below hb
            replace OA := OwnC.below OA hb
            replace OL := OwnC.below OL hb
            replace B := nxt B hb
            clear hb c0 c1 d0 d1
            obtain ⟨c0, c1⟩ := OwnC.get OA (allC_length W N) (q := (x, y)) (by rw [allC_get W N i hlt, HXY.out])
            dsimp only at c0 c1
            obtain ⟨d0, d1⟩ := OwnC.get OL HM.out.symm HQ.out
            dsimp only at d0 d1
            refine hK.out _ _ ⟨c0, c1, d0, d1⟩ (fun hHeld => ?_)
            clear hK K
            try simp only [List.getElem_toArray, List.getElem_cons_zero, List.getElem_cons_succ, Act.put, List.setIfInBounds_toArray, List.set_cons_zero, List.set_cons_succ]
            refine wpAnyH_take (i := 10) (oi := _) (v := ?_) rfl (by kernel_rfl) (by kernel_rfl) (by kernel_rfl) (fun _ _ _ h => h) (Or.inl ⟨by kernel_rfl, ?_⟩) (by assumption) ?_
            rotate_left
            · intro w hSw; (try dsimp only at hSw); go_simp; first | done | with_reducible rfl
            try simp only [List.getElem_toArray, List.getElem_cons_zero, List.getElem_cons_succ, Act.put, List.setIfInBounds_toArray, List.set_cons_zero, List.set_cons_succ]
            refine wpAnyH_done (by kernel_rfl) ?_ _
            go_wp2
            refine ⟨⟨k + 1, by omega, by first | go_num | simp, X1, B, OA, OL, r, rfl, ?_⟩, by simp [intOf]; omega⟩
            rw [take_snoc HQ.out, List.countP_append, HRK.out]
            simp [HEC.out]
        · obtain rfl : k = m := by omega
          have hall : L.take k = L := by rw [HM.out, List.take_length]
          have hrk2 := HRK.out
          rw [hall] at hrk2
          have HR2 := Lib.hid hrk2
          clear hall hrk2
          go_wp2
          refine ⟨⟨i + 1, by omega, by first | go_num | simp, X1, B, OA, ?_⟩, by simp [intOf]; omega⟩
          rw [HS.out, HR2.out]
    · obtain rfl : i = N := by omega
      have hd2 : ((2 * sN (fun i => flS W H h (cl W i)) i : Nat) : Int).tdiv 2 = ((sN (fun i => flS W H h (cl W i)) i : Nat) : Int) := by rw [Int.natCast_mul]; exact Int.mul_tdiv_cancel_left _ (by decide)
      rw [H2.out] at hcb
      rw [H2.out]
      obtain ⟨cs, hcs⟩ : ∃ cs, cs = sN (fun i => flS W H h (cl W i)) i := ⟨_, rfl⟩
      rw [← hcs] at hcb hd2 ⊢
      have HCS := Lib.hid hcs
      clear HS hcs
      go_wp2
      refine bodyPost_ret (results_tmp2 Try.results50 _ _ _) rfl ⟨B, ?_⟩
      rw [← HN.out, ← HCS.out]
      rfl

end flatSteps
end Go.Proofs.Ytegnhpanlbfmdaa
