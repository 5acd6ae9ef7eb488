/-
  Both sides of RaiseAll answer the same. Conditions stand at each.
-/
import Derived.Test.YtegnhpanlbfmdaaRows
import Derived.Test.YtegnhpanlbfmdaaRaiseM
import Derived.Test.YtegnhpanlbfmdaaWithH
import Derived.Test.YtegnhpanlbfmdaaGndV2
import Derived.Test.YtegnhpanlbfmdaaShortI
import Derived.Test.YtegnhpanlbfmdaaDrawR
import Derived.Test.YtegnhpanlbfmdaaLowI
import Derived.Deep.Cut
import Derived.Deep.RegionHeld3
import Derived.StillTailTactics
namespace Go.Proofs.Ytegnhpanlbfmdaa
open Go Go.ChangeShapes Go.WideShapes Go.ChangeAt Go.RowKit Go.Shelf
set_option linter.unusedVariables false
set_option linter.unusedSimpArgs false
set_option maxRecDepth 100000
set_option maxHeartbeats 4000000

attribute [local go_sem] Oper.semAt_some
namespace raiseAll
theorem infoZ : (Try.prog.info? 33).map (·.size) = some Try.zeroCells33.size := by rw [zeroG]; exact infoGv _ _ _ _
theorem zeroOne : Try.zeroCells33.all (·.oneCell') = true := by rw [zeroG]; exact gV_one _ _ _ _ _ _
theorem hasNil (w : World) (base : Nat) : HasSlice .i8 2 w base (.slice none 0 0) 0 (fun _ => 0) := ⟨none, 0, 0, rfl, fun h => by omega, fun j hj => by omega⟩

theorem spec_bad (X Y : Int) (h : Nat → Int) (g n : Nat) (c : Nat → Int) (k : Int) (w : World) (hX : -128 ≤ X ∧ X ≤ 127) (hY : -128 ≤ Y ∧ Y ≤ 127) (hh : ∀ p, -32768 ≤ h p ∧ h p ≤ 32767) (hc : ∀ j, -128 ≤ c j ∧ c j ≤ 127) (hm : n ≤ 1048576) (hA : Ac w g n c) (z : Int) (hz : (¬ GValid X Y h n c ∧ z = 1) ∨ (GValid X Y h n c ∧ ¬ (-200 ≤ k ∧ k ≤ 200) ∧ z = 2)) :
    Calls Try.prog 70 #[.agg (gV X Y h (.slice (some ⟨g, 0, none⟩) n n)), .int .i64 k] w fun e w' => Below w.heap.size w w' ∧ ∃ v, e = .returned (.tuple #[.agg (gV 0 0 (fun _ => 0) v), .int .i64 z]) ∧ HasSlice .i8 2 w' w.heap.size v 0 (fun _ => 0) := by
  have HH := Lib.hid hh
  have HC := Lib.hid hc
  have HZ := Lib.hid hz
  clear hh hc hz
  have X2 := (Bx.new w (gV X Y h (.slice (some ⟨g, 0, none⟩) n n)) 33).alloc (.cells Try.zeroCells33 33)
  have X4 := Bx.newAt (w.alloc (.cells (gV X Y h (.slice (some ⟨g, 0, none⟩) n n)) 33)) (w.heap.size + 1) Try.zeroCells33 33 (by simp)
  have B := al (al (Below.refl w.heap.size w) (.cells (gV X Y h (.slice (some ⟨g, 0, none⟩) n n)) 33)) (.cells Try.zeroCells33 33)
  replace hA := (hA.alloc (.cells (gV X Y h (.slice (some ⟨g, 0, none⟩) n n)) 33)).alloc (.cells Try.zeroCells33 33)
  go_enter Try.func70, Try.ntmps70
  go_upto_region 1 with fail
  obtain ⟨W0, hW0⟩ : ∃ W0 : World, W0 = (w.alloc (.cells (gV X Y h (.slice (some ⟨g, 0, none⟩) n n)) 33)).alloc (.cells Try.zeroCells33 33) := ⟨_, rfl⟩
  rw [← hW0] at X2 X4 B hA ⊢
  clear hW0
  go_wp2_with fail
  by_cases hf : -200 ≤ k ∧ k ≤ 200
  · refine (inn_yes k (-200) 200 _ hf.1 hf.2).mono ?_
    rintro e w1 ⟨rfl, rfl⟩
    have HF := Lib.hid hf
    clear hf
    go_wp2_with fail
    refine (gasked_any X Y h w.heap.size _ n n c true _ hX hY HH.out HC.out hm X2 hA.rd).mono ?_
    rintro e w2 ⟨hb, ⟨hv, _, rfl⟩ | ⟨hv, hf, _⟩ | ⟨hv, rfl⟩⟩
    · rcases HZ.out with k | k
      · exact absurd hv k.1
      · exact absurd HF.out k.2.1
    · cases hf
    · obtain rfl : z = 1 := by rcases HZ.out with k | k; exact k.2; exact absurd k.1 hv
      replace X4 := X4.below hb
      replace B := nxt B hb
      clear hb
      clear hv X2 hA HZ
      go_wp2_with (refine wpList_store_box X4 rfl _ _ _ rfl rfl rfl (infoZ) rfl zeroOne ?_)
      have Y4 := (X4.setRow Try.zeroCells33).cast zeroG
      exact bodyPost_ret (results_row_tmp Try.results70 _ _ _ _ _ _ Y4 rfl Try.underlying33 rfl (infoGv _ _ _ _) (.int .i64 1) rfl) rfl ⟨setRow_below B (by omega) _, _, rfl, hasNil _ _⟩
  · refine (inn_no k (-200) 200 _ hf).mono ?_
    rintro e w1 ⟨rfl, rfl⟩
    have HF := Lib.hid hf
    clear hf
    go_wp2_with fail
    refine (gasked_any X Y h w.heap.size _ n n c false _ hX hY HH.out HC.out hm X2 hA.rd).mono ?_
    rintro e w2 ⟨hb, ⟨hv, hf, _⟩ | ⟨hv, _, rfl⟩ | ⟨hv, rfl⟩⟩
    · cases hf
    · obtain rfl : z = 2 := by rcases HZ.out with k | k; exact absurd hv k.1; exact k.2.2
      replace X4 := X4.below hb
      replace B := nxt B hb
      clear hb
      clear hv X2 hA HZ
      go_wp2_with (refine wpList_store_box X4 rfl _ _ _ rfl rfl rfl (infoZ) rfl zeroOne ?_)
      have Y4 := (X4.setRow Try.zeroCells33).cast zeroG
      exact bodyPost_ret (results_row_tmp Try.results70 _ _ _ _ _ _ Y4 rfl Try.underlying33 rfl (infoGv _ _ _ _) (.int .i64 2) rfl) rfl ⟨setRow_below B (by omega) _, _, rfl, hasNil _ _⟩
    · obtain rfl : z = 1 := by rcases HZ.out with k | k; exact k.2; exact absurd k.1 hv
      replace X4 := X4.below hb
      replace B := nxt B hb
      clear hb
      clear hv X2 hA HZ
      go_wp2_with (refine wpList_store_box X4 rfl _ _ _ rfl rfl rfl (infoZ) rfl zeroOne ?_)
      have Y4 := (X4.setRow Try.zeroCells33).cast zeroG
      exact bodyPost_ret (results_row_tmp Try.results70 _ _ _ _ _ _ Y4 rfl Try.underlying33 rfl (infoGv _ _ _ _) (.int .i64 1) rfl) rfl ⟨setRow_below B (by omega) _, _, rfl, hasNil _ _⟩

theorem impl_bad (X Y : Int) (h : Nat → Int) (g n : Nat) (c : Nat → Int) (k : Int) (w : World) (hX : -128 ≤ X ∧ X ≤ 127) (hY : -128 ≤ Y ∧ Y ≤ 127) (hh : ∀ p, -32768 ≤ h p ∧ h p ≤ 32767) (hc : ∀ j, -128 ≤ c j ∧ c j ≤ 127) (hm : n ≤ 1048576) (hA : Ac w g n c) (z : Int) (hz : (¬ GValid X Y h n c ∧ z = 1) ∨ (GValid X Y h n c ∧ ¬ (-200 ≤ k ∧ k ≤ 200) ∧ z = 2)) :
    Calls Try.prog 71 #[.agg (gV X Y h (.slice (some ⟨g, 0, none⟩) n n)), .int .i64 k] w fun e w' => Below w.heap.size w w' ∧ ∃ v, e = .returned (.tuple #[.agg (gV 0 0 (fun _ => 0) v), .int .i64 z]) ∧ HasSlice .i8 2 w' w.heap.size v 0 (fun _ => 0) := by
  have HH := Lib.hid hh
  have HC := Lib.hid hc
  have HZ := Lib.hid hz
  clear hh hc hz
  have X2 := ((Bx.new w (gV X Y h (.slice (some ⟨g, 0, none⟩) n n)) 33).alloc (.cells #[.int .i64 k] 2)).alloc (.cells Try.zeroCells33 33)
  have X3 := (Bx.newAt (w.alloc (.cells (gV X Y h (.slice (some ⟨g, 0, none⟩) n n)) 33)) (w.heap.size + 1) #[.int .i64 k] 2 (by simp)).alloc (.cells Try.zeroCells33 33)
  have X4 := Bx.newAt ((w.alloc (.cells (gV X Y h (.slice (some ⟨g, 0, none⟩) n n)) 33)).alloc (.cells #[.int .i64 k] 2)) (w.heap.size + 1 + 1) Try.zeroCells33 33 (by simp)
  have B := al (al (al (Below.refl w.heap.size w) (.cells (gV X Y h (.slice (some ⟨g, 0, none⟩) n n)) 33)) (.cells #[.int .i64 k] 2)) (.cells Try.zeroCells33 33)
  replace hA := ((hA.alloc (.cells (gV X Y h (.slice (some ⟨g, 0, none⟩) n n)) 33)).alloc (.cells #[.int .i64 k] 2)).alloc (.cells Try.zeroCells33 33)
  go_enter Try.func71, Try.ntmps71
  go_upto_region 1 with fail
  obtain ⟨W0, hW0⟩ : ∃ W0 : World, W0 = ((w.alloc (.cells (gV X Y h (.slice (some ⟨g, 0, none⟩) n n)) 33)).alloc (.cells #[.int .i64 k] 2)).alloc (.cells Try.zeroCells33 33) := ⟨_, rfl⟩
  rw [← hW0] at X2 X3 X4 B hA ⊢
  clear hW0
  go_wp2_with (refine wpList_load_box X2 rfl _ _ rfl rfl _ Try.underlying33 rfl (infoGv _ _ _ _) ?_)
  refine (landOf_any X Y h g n c _ hX hY HH.out HC.out hm hA).mono ?_
  clear X2 hA
  rintro e w1 ⟨hb, ⟨hv, p, m, rfl, hpm, hmp, hL⟩ | ⟨hv, rfl⟩⟩
  · obtain ⟨hnr, rfl⟩ : ¬ (-200 ≤ k ∧ k ≤ 200) ∧ z = 2 := by rcases HZ.out with k | k; exact absurd hv k.1; exact k.2
    replace X3 := (X3.below hb).alloc (.cells #[.pointer (some ⟨p, 0, none⟩)] 130)
    replace X4 := (X4.below hb).alloc (.cells #[.pointer (some ⟨p, 0, none⟩)] 130)
    replace B := al (nxt B hb) (.cells #[.pointer (some ⟨p, 0, none⟩)] 130)
    clear hb
    clear hv HZ hL
    have W1 : ∃ W1 : World, W1 = w1.alloc (.cells #[.pointer (some ⟨p, 0, none⟩)] 130) := ⟨_, rfl⟩
    go_upto_region 2 with fail
    obtain ⟨W1, hW1⟩ := W1
    rw [← hW1] at X3 X4 B ⊢
    clear hW1
    have s30 : W1.cell? ⟨w.heap.size + 1, 0, none⟩ = some (.int .i64 k) := X3.cell 0
    by_cases hlo : k < -200
    · skip
      go_wp2_with (refine wpList_store_box X4 rfl _ _ _ rfl rfl rfl (infoZ) rfl zeroOne ?_)
      have Y4 := (X4.setRow Try.zeroCells33).cast zeroG
      exact bodyPost_ret (results_row_tmp Try.results71 _ _ _ _ _ _ Y4 rfl Try.underlying33 rfl (infoGv _ _ _ _) (.int .i64 2) rfl) rfl ⟨setRow_below B (by omega) _, _, rfl, hasNil _ _⟩
    · have hhi : 200 < k := by omega
      go_wp2_with (refine wpList_store_box X4 rfl _ _ _ rfl rfl rfl (infoZ) rfl zeroOne ?_)
      have Y4 := (X4.setRow Try.zeroCells33).cast zeroG
      exact bodyPost_ret (results_row_tmp Try.results71 _ _ _ _ _ _ Y4 rfl Try.underlying33 rfl (infoGv _ _ _ _) (.int .i64 2) rfl) rfl ⟨setRow_below B (by omega) _, _, rfl, hasNil _ _⟩
  · obtain rfl : z = 1 := by rcases HZ.out with k | k; exact k.2; exact absurd k.1 hv
    replace X3 := (X3.below hb).alloc (.cells #[.pointer none] 130)
    replace X4 := (X4.below hb).alloc (.cells #[.pointer none] 130)
    replace B := al (nxt B hb) (.cells #[.pointer none] 130)
    clear hb
    clear hv HZ
    have W1 : ∃ W1 : World, W1 = w1.alloc (.cells #[.pointer none] 130) := ⟨_, rfl⟩
    go_upto_region 2 with fail
    obtain ⟨W1, hW1⟩ := W1
    rw [← hW1] at X3 X4 B ⊢
    clear hW1
    go_wp2_with (refine wpList_store_box X4 rfl _ _ _ rfl rfl rfl (infoZ) rfl zeroOne ?_)
    have Y4 := (X4.setRow Try.zeroCells33).cast zeroG
    exact bodyPost_ret (results_row_tmp Try.results71 _ _ _ _ _ _ Y4 rfl Try.underlying33 rfl (infoGv _ _ _ _) (.int .i64 1) rfl) rfl ⟨setRow_below B (by omega) _, _, rfl, hasNil _ _⟩

theorem spec_in (W H : Nat) (h : Nat → Int) (g n : Nat) (c : Nat → Int) (k : Int) (w : World) (hh : ∀ p, -32768 ≤ h p ∧ h p ≤ 32767) (hc : ∀ j, -128 ≤ c j ∧ c j ≤ 127) (hA : Ac w g n c) (hv : GValid W H h n c) (hk : -200 ≤ k ∧ k ≤ 200) (rX rY : Int) (rh : Nat → Int) (z : Int) (nn : Nat) (ff : Nat → Int) (hz : (GValid W H (rH W H h k) n c ∧ rX = W ∧ rY = H ∧ rh = rH W H h k ∧ z = 0 ∧ nn = n ∧ ff = c) ∨ (¬ GValid W H (rH W H h k) n c ∧ rX = 0 ∧ rY = 0 ∧ rh = (fun _ => 0) ∧ z = 3 ∧ nn = 0 ∧ ff = (fun _ => 0))) :
    Calls Try.prog 70 #[.agg (gV W H h (.slice (some ⟨g, 0, none⟩) n n)), .int .i64 k] w fun e w' => Below w.heap.size w w' ∧ ∃ v, e = .returned (.tuple #[.agg (gV rX rY rh v), .int .i64 z]) ∧ HasSlice .i8 2 w' w.heap.size v nn ff := by
  have hX : 1 ≤ (W : Int) ∧ (W : Int) ≤ 9 := hv.1.1
  have hY : 1 ≤ (H : Int) ∧ (H : Int) ≤ 9 := hv.1.2.1
  have h8 : n ≤ 8 := hv.1.2.2
  have hW : W ≤ 9 := by omega
  have hH : H ≤ 9 := by omega
  have hts := hts_of hW hH hv.2.1
  have HT := Lib.hid hts
  have HV := Lib.hid hv
  have HH := Lib.hid hh
  have HC := Lib.hid hc
  have HZ := Lib.hid hz
  have HRB := Lib.hid (fun p => (rU_all (W := W) (H := H) (h := h) (k := k) p) ▸ rU_in (i := W * H) (p := p) hh hts hW hk)
  clear hv hh hc hz hts
  have X2 := (Bx.new w (gV W H h (.slice (some ⟨g, 0, none⟩) n n)) 33).alloc (.cells Try.zeroCells33 33)
  have X4 := Bx.newAt (w.alloc (.cells (gV W H h (.slice (some ⟨g, 0, none⟩) n n)) 33)) (w.heap.size + 1) Try.zeroCells33 33 (by simp)
  have B := al (al (Below.refl w.heap.size w) (.cells (gV W H h (.slice (some ⟨g, 0, none⟩) n n)) 33)) (.cells Try.zeroCells33 33)
  replace hA := (hA.alloc (.cells (gV W H h (.slice (some ⟨g, 0, none⟩) n n)) 33)).alloc (.cells Try.zeroCells33 33)
  go_enter Try.func70, Try.ntmps70
  go_upto_region 1 with fail
  obtain ⟨W0, hW0⟩ : ∃ W0 : World, W0 = (w.alloc (.cells (gV W H h (.slice (some ⟨g, 0, none⟩) n n)) 33)).alloc (.cells Try.zeroCells33 33) := ⟨_, rfl⟩
  rw [← hW0] at X2 X4 B hA ⊢
  clear hW0
  go_wp2_with fail
  refine (inn_yes k (-200) 200 _ hk.1 hk.2).mono ?_
  rintro e w1 ⟨rfl, rfl⟩
  go_wp2_with fail
  refine (gasked_any W H h w.heap.size _ n n c true _ (by omega) (by omega) HH.out HC.out (by omega) X2 hA.rd).mono ?_
  rintro e w2 ⟨hb, ⟨_, _, rfl⟩ | ⟨_, hf, _⟩ | ⟨hn, _⟩⟩
  case inr.inl => cases hf
  case inr.inr => exact absurd HV.out hn
  replace X2 := X2.below hb
  replace X4 := X4.below hb
  replace hA := hA.below hb
  replace B := nxt B hb
  clear hb
  have hz4 := X4.lt
  go_wp2_with fail
  refine (own_any W H h w.heap.size g n c _ h8 X2 hA).mono ?_
  rintro e w3 ⟨hb, v, rfl, O⟩
  obtain ⟨A5, cap5, rfl, hA5⟩ := O.form2
  have HA5 := Lib.hid hA5
  clear hA5
  have hz5 := (X4.below hb).lt
  have hz6 := hb.size
  have X7 := Bx.new w3 (gV W H h (.slice A5 n cap5)) 33
  replace X2 := (X2.below hb).alloc (.cells (gV W H h (.slice A5 n cap5)) 33)
  replace X4 := (X4.below hb).alloc (.cells (gV W H h (.slice A5 n cap5)) 33)
  replace O := O.alloc (.cells (gV W H h (.slice A5 n cap5)) 33)
  replace B := al (nxt B hb) (.cells (gV W H h (.slice A5 n cap5)) 33)
  clear hb hA
  have W3 : ∃ W3 : World, W3 = w3.alloc (.cells (gV W H h (.slice A5 n cap5)) 33) := ⟨_, rfl⟩
  go_upto_region 5 with (refine wpList_store_new rfl _ _ _ rfl rfl rfl (infoGv _ _ _ _) zsize (gV_one _ _ _ _ _ _) ?_)
  obtain ⟨W3, hW3⟩ := W3
  rw [← hW3] at X2 X4 X7 O B ⊢
  have hs3 : w3.heap.size < W3.heap.size := X7.lt
  clear hW3
  go_wp2_with fail
  refine (gall_any W H w.heap.size h _ _ (by omega) hW hH X2).mono ?_
  rintro e w4 ⟨hb, va, rfl, OA⟩
  obtain ⟨N, hN⟩ : ∃ N, N = W * H := ⟨_, rfl⟩
  rw [← hN] at OA
  obtain ⟨Aa, capa, rfl, hAa⟩ := OwnC.form OA
  rw [allC_length] at OA hAa ⊢
  replace X4 := X4.below hb
  replace X7 := X7.below hb
  replace O := O.below hb
  replace B := nxt B hb
  clear hb
  clear X2
  have hN81 : N ≤ 81 := by rw [hN]; exact Nat.mul_le_mul hW hH
  have HN := Lib.hid hN
  clear hN
  go_wp2_with fail
  go_loopw [9] (fun t9 wr => ∃ i : Nat, i ≤ N ∧ t9 = .int .i64 i ∧ Below w.heap.size w wr ∧ OwnC wr W3.heap.size (.slice Aa N capa) (allC W N) ∧ Bx wr (w.heap.size + 1) Try.zeroCells33 33 ∧ Bx wr w3.heap.size (gV W H (rU W H h k i) (.slice A5 n cap5)) 33 ∧ OwnG wr w2.heap.size (.slice A5 n cap5) n c) (fun t9 _ => N - (intOf t9).toNat)
  case atStart => exact ⟨0, by omega, rfl, B, OA, X4, X7.cast (gV_congr fun p _ => (rU_zero p).symm), O⟩
  case round =>
    clear B OA X4 X7 O
    obtain ⟨i, hi, rfl, B, OA, X4, X7, O⟩ := hrel
    obtain ⟨wo, rfl⟩ : ∃ wo : World, wo = wr := ⟨_, rfl⟩
    by_cases hlt : i < N
    · have hii : (i : Int) < N := by omega
      obtain ⟨ga, rfl, hga, _⟩ := hAa (by omega)
      obtain ⟨x, y, hxy⟩ : ∃ x y, cl W i = (x, y) := ⟨_, _, rfl⟩
      have hbd := cl_lt (by omega : W ≤ 12) (by omega : H ≤ 12) (show i < W * H by rw [← HN.out]; exact hlt)
      have hix : W * y + x = i := by
        have := Nat.div_add_mod i W
        have e1 : i % W = x := congrArg Prod.fst hxy
        have e2 : i / W = y := congrArg Prod.snd hxy
        rw [e1, e2] at this
        exact this
      rw [hxy] at hbd
      obtain ⟨hx, hy⟩ := hbd
      dsimp only at hx hy
      obtain ⟨c0, c1⟩ := OwnC.get OA (allC_length W N) (q := (x, y)) (by rw [allC_get W N i hlt, hxy])
      dsimp only at c0 c1
      have hxi : (x : Int) < 9 := by omega
      have hyi : (y : Int) < 9 := by omega
      have hc7 := X7.hcell (x := x) (y := y) (by omega) (by omega)
      have hat := rU_at (W := W) (H := H) (h := h) (k := k) (x := x) (y := y) hx hW
      rw [hix] at hat
      rw [hat] at hc7
      have hz1 := HT.out (x, y) hx hy
      unfold htP at hz1
      dsimp only at hz1
      have wk : IntKind.i16.wrap k = k := IntWalk.i16_in _ (by omega)
      have wz : IntKind.i16.wrap (h (y * 9 + x) + k) = h (y * 9 + x) + k := IntWalk.i16_in _ (by omega)
      have HIX := Lib.hid hix
      have hgne : ga ≠ w3.heap.size := by omega
      clear hat hix hxy
      have f7 := X7.frozen (2 + y * 9 + x)
      have X7' := X7.set (2 + y * 9 + x) (.int .i16 (h (y * 9 + x) + k))
      rw [show 2 + y * 9 + x = 2 + (y * 9 + x) by omega, gV_seth _ _ _ _ (by omega : y * 9 + x < 81), show 2 + (y * 9 + x) = 2 + y * 9 + x by omega] at X7'
      have HX7 := Lib.hid X7'
      clear X7'
      go_wp2
      go_still_tail 20, (by kernel_rfl)
      change wpList _ _ _ _ _ wo.drew
      replace hc7 : wo.drew.cell? ⟨w3.heap.size, 2 + y * 9 + x, none⟩ = some (.int .i16 (h (y * 9 + x))) := hc7
      replace f7 : wo.drew.frozen? ⟨w3.heap.size, 2 + y * 9 + x, none⟩ = false := f7
      have hX7 : Bx (wo.drew.setCell ⟨w3.heap.size, 2 + y * 9 + x, none⟩ (.int .i16 (h (y * 9 + x) + k))) w3.heap.size (gV W H (fun j => if j = y * 9 + x then h (y * 9 + x) + k else rU W H h k i j) (.slice A5 n cap5)) 33 := HX7.out
      clear HX7
      replace B := B.drew
      replace OA := OA.drew
      replace X4 := X4.drew
      replace O := O.drew
      obtain ⟨wd, hwd⟩ : ∃ wd : World, wd = wo.drew := ⟨_, rfl⟩
      rw [← hwd] at hc7 f7 hX7 B OA X4 O ⊢
      have HX7 := Lib.hid hX7
      clear hwd X7 c0 c1 hX7
      have OX := Lib.hid (O.setNe (i := 2 + y * 9 + x) (u := .int .i16 (h (y * 9 + x) + k)) (b := w3.heap.size) (fun g e => by have := (HA5.out g e).2; omega))
      go_wp2
      refine ⟨⟨i + 1, by omega, by first | go_num | simp, B.setCell (p := ⟨w3.heap.size, 2 + y * 9 + x, none⟩) (by show w.heap.size ≤ w3.heap.size; omega) _, OwnC.setOther OA (by omega), X4.other _ (by omega), HX7.out.cast (gV_congr fun p hp => ?_), OX.out⟩, by simp [intOf]; omega⟩
      have := rU_step (h := h) (k := k) hx hy hW p hp
      rw [HIX.out] at this
      exact this
    · obtain rfl : i = N := by omega
      replace X7 : Bx wo w3.heap.size (gV W H (rH W H h k) (.slice A5 n cap5)) 33 := X7.cast (gV_congr fun p _ => by rw [HN.out]; exact rU_all p)
      have hs4 := X4.lt
      go_wp2_with fail
      refine (gok_any W H (rH W H h k) w3.heap.size A5 n cap5 c _ (by omega) (by omega) HRB.out HC.out (by omega) X7 O.rd).mono ?_
      clear OA
      rintro e w6 ⟨hb, ⟨hv, rfl⟩ | ⟨hv, rfl⟩⟩
      · obtain ⟨rfl, rfl, rfl, rfl, rfl, rfl⟩ : rX = (W : Int) ∧ rY = (H : Int) ∧ rh = rH W H h k ∧ z = 0 ∧ nn = n ∧ ff = c := by rcases HZ.out with q | q; exact q.2; exact absurd hv q.1
        replace X4 := X4.below hb
        replace X7 := X7.below hb
        replace O := O.below hb
        replace B := nxt B hb
        clear hb
        have hs6 := X4.lt
        clear hv HZ
        go_wp2_with (first
          | (refine wpList_load_box X7 rfl _ _ rfl rfl _ Try.underlying33 rfl (infoGv _ _ _ _) ?_)
          | (refine wpList_store_box X4 rfl _ _ _ rfl rfl rfl (infoGv _ _ _ _) zsize (gV_one _ _ _ _ _ _) ?_))
        have Y4 := X4.setRow (gV W H (rH W H h k) (.slice A5 nn cap5))
        exact bodyPost_ret (results_row_tmp Try.results70 _ _ _ _ _ _ Y4 rfl Try.underlying33 rfl (infoGv _ _ _ _) (.int .i64 0) rfl) rfl ⟨setRow_below B (by omega) _, _, rfl, ((O.setRow _ (by omega)).mono (by omega)).has⟩
      · obtain ⟨rfl, rfl, rfl, rfl, rfl, rfl⟩ : rX = 0 ∧ rY = 0 ∧ rh = (fun _ => 0) ∧ z = 3 ∧ nn = 0 ∧ ff = (fun _ => 0) := by rcases HZ.out with q | q; exact absurd q.1 hv; exact q.2
        replace X4 := X4.below hb
        replace B := nxt B hb
        clear hb
        have hs6 := X4.lt
        clear hv HZ X7 O
        go_wp2_with (refine wpList_store_box X4 rfl _ _ _ rfl rfl rfl (infoZ) rfl zeroOne ?_)
        have Y4 := (X4.setRow Try.zeroCells33).cast zeroG
        exact bodyPost_ret (results_row_tmp Try.results70 _ _ _ _ _ _ Y4 rfl Try.underlying33 rfl (infoGv _ _ _ _) (.int .i64 3) rfl) rfl ⟨setRow_below B (by omega) _, _, rfl, hasNil _ _⟩

end raiseAll
end Go.Proofs.Ytegnhpanlbfmdaa
