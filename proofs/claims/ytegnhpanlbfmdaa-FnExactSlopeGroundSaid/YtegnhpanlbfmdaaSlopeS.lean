/-
  The model's SlopeGround. Conditions stand at each.
-/
import Derived.Test.YtegnhpanlbfmdaaRows
import Derived.Test.YtegnhpanlbfmdaaSlopeM
import Derived.Test.YtegnhpanlbfmdaaGndOk
import Derived.Test.YtegnhpanlbfmdaaWithH
import Derived.Deep.Cut
import Derived.Deep.RegionHeld3
import Derived.StillTailTactics
namespace Go.Proofs.Ytegnhpanlbfmdaa
open Go Go.ChangeShapes Go.WideShapes Go.ChangeAt Go.RowKit Go.Shelf
set_option linter.unusedVariables false
set_option linter.unusedSimpArgs false
set_option maxRecDepth 100000
set_option maxHeartbeats 4000000

namespace slopeGround
theorem infoZ : (Try.prog.info? 33).map (·.size) = some Try.zeroCells33.size := by rw [zeroG]; exact infoGv _ _ _ _
theorem zeroOne : Try.zeroCells33.all (·.oneCell') = true := by rw [zeroG]; exact gV_one _ _ _ _ _ _
theorem hasNil (w : World) (base : Nat) : HasSlice .i8 2 w base (.slice none 0 0) 0 (fun _ => 0) := ⟨none, 0, 0, rfl, fun h => by omega, fun j hj => by omega⟩

theorem zero_cells : ((Try.prog.info? 33).bind (·.zero)).map (·.cells) = some Try.zeroCells33 := by kernel_rfl
theorem built_arr (X Y : Int) (s : Value) : ((Try.zeroCells33.setIfInBounds 0 (.int .i8 X)).setIfInBounds 1 (.int .i8 Y)).setIfInBounds 83 s = gV X Y (fun _ => 0) s := by rw [zeroG, gV_set0, gV_set1, gV_set83]
theorem built_ground3 (X Y : Int) (A : Option Addr) (n cap : Nat) : Try.prog.built 33 [(0, .int .i8 X), (1, .int .i8 Y), (3, .slice A n cap)] = some (gV X Y (fun _ => 0) (.slice A n cap)) := by
  obtain ⟨it, z, hi, hz, hs⟩ := ground_zero
  have hzc : z.cells = gV 0 0 (fun _ => 0) (.slice none 0 0) := by
    have := zero_cells
    simp [hi, hz] at this
    rw [this]; exact zeroG
  obtain ⟨fs, hu, hp⟩ := ground_places
  rw [built_struct hi hu hz hp]
  obtain ⟨r1, e1, s1, g1⟩ := fill_step (place := (([(0, 1), (1, 1), (2, 81), (83, 1)] : List (Nat × Nat)).toArray[·]?)) (cells := z.cells) (i := 0) (off := 0) (size := 1) (v := .int .i8 X) (rest := [(1, .int .i8 Y), (3, .slice A n cap)]) rfl rfl (by omega)
  obtain ⟨r2, e2, s2, g2⟩ := fill_step (place := (([(0, 1), (1, 1), (2, 81), (83, 1)] : List (Nat × Nat)).toArray[·]?)) (cells := r1) (i := 1) (off := 1) (size := 1) (v := .int .i8 Y) (rest := [(3, .slice A n cap)]) rfl rfl (by omega)
  obtain ⟨r4, e4, s4, g4⟩ := fill_step (place := (([(0, 1), (1, 1), (2, 81), (83, 1)] : List (Nat × Nat)).toArray[·]?)) (cells := r2) (i := 3) (off := 83) (size := 1) (v := .slice A n cap) (rest := []) rfl rfl (by omega)
  rw [e1, e2, e4]
  show some r4 = _
  congr 1
  refine gV_of X Y (fun _ => 0) (.slice A n cap) (by omega) ?_ ?_ (fun p hp => ?_) ?_
  · rw [g4, if_neg (by omega), g2, if_neg (by omega), g1, if_pos (by omega)]; rfl
  · rw [g4, if_neg (by omega), g2, if_pos (by omega)]; rfl
  · rw [g4, if_neg (by omega), g2, if_neg (by omega), g1, if_neg (by omega), hzc]; exact gV_h _ _ _ _ hp
  · rw [g4, if_pos (by omega)]; rfl

theorem spec_range (K0 K1 F : Int) (g n : Nat) (c : Nat → Int) (w : World) (hA : Ac w g n c) (hz : ¬ ((1 ≤ K0 ∧ K0 ≤ 9) ∧ (1 ≤ K1 ∧ K1 ≤ 9) ∧ (0 ≤ F ∧ F ≤ 200))) :
    Calls Try.prog 63 #[.int .i64 K0, .int .i64 K1, (.slice (some ⟨g, 0, none⟩) n n), .int .i64 F] w fun e w' => Below w.heap.size w w' ∧ ∃ v, e = .returned (.tuple #[.agg (gV 0 0 (fun _ => 0) v), .int .i64 2]) ∧ HasSlice .i8 2 w' w.heap.size v 0 (fun _ => 0) := by
  have HZ := Lib.hid hz
  clear hz
  have X8 := Bx.new w Try.zeroCells33 33
  have B := al (Below.refl w.heap.size w) (.cells Try.zeroCells33 33)
  replace hA := hA.alloc (.cells Try.zeroCells33 33)
  go_enter Try.func63, Try.ntmps63
  have W0 : ∃ W0 : World, W0 = w.alloc (.cells Try.zeroCells33 33) := ⟨_, rfl⟩
  go_upto_region 1 with fail
  obtain ⟨W0, hW0⟩ := W0
  rw [← hW0] at X8 B hA ⊢
  clear hW0
  clear hA
  have hz8 := X8.lt
  go_wp2_with fail
  by_cases h0 : 1 ≤ K0 ∧ K0 ≤ 9
  · refine (inn_yes K0 1 9 _ h0.1 h0.2).mono ?_
    rintro e w1 ⟨rfl, rfl⟩
    have H0 := Lib.hid h0
    clear h0
    go_wp2_with fail
    by_cases h1 : 1 ≤ K1 ∧ K1 ≤ 9
    · refine (inn_yes K1 1 9 _ h1.1 h1.2).mono ?_
      rintro e w1 ⟨rfl, rfl⟩
      have H1 := Lib.hid h1
      clear h1
      go_wp2_with fail
      refine (inn_no F 0 200 _ (fun h => HZ.out ⟨H0.out, H1.out, h⟩)).mono ?_
      rintro e w1 ⟨rfl, rfl⟩
      go_wp2_with (refine wpList_store_box X8 rfl _ _ _ rfl rfl rfl infoZ rfl zeroOne ?_)
      have Y4 := (X8.setRow Try.zeroCells33).cast zeroG
      exact bodyPost_ret (results_row_tmp Try.results63 _ _ _ _ _ _ Y4 rfl Try.underlying33 rfl (infoGv _ _ _ _) (.int .i64 2) rfl) rfl ⟨setRow_below B (by omega) _, _, rfl, hasNil _ _⟩
    · refine (inn_no K1 1 9 _ h1).mono ?_
      rintro e w1 ⟨rfl, rfl⟩
      clear h1
      go_wp2_with (refine wpList_store_box X8 rfl _ _ _ rfl rfl rfl infoZ rfl zeroOne ?_)
      have Y4 := (X8.setRow Try.zeroCells33).cast zeroG
      exact bodyPost_ret (results_row_tmp Try.results63 _ _ _ _ _ _ Y4 rfl Try.underlying33 rfl (infoGv _ _ _ _) (.int .i64 2) rfl) rfl ⟨setRow_below B (by omega) _, _, rfl, hasNil _ _⟩
  · refine (inn_no K0 1 9 _ h0).mono ?_
    rintro e w1 ⟨rfl, rfl⟩
    clear h0
    go_wp2_with (refine wpList_store_box X8 rfl _ _ _ rfl rfl rfl infoZ rfl zeroOne ?_)
    have Y4 := (X8.setRow Try.zeroCells33).cast zeroG
    exact bodyPost_ret (results_row_tmp Try.results63 _ _ _ _ _ _ Y4 rfl Try.underlying33 rfl (infoGv _ _ _ _) (.int .i64 2) rfl) rfl ⟨setRow_below B (by omega) _, _, rfl, hasNil _ _⟩

theorem spec_in (W H : Nat) (F : Int) (g n : Nat) (c : Nat → Int) (w : World) (hc : ∀ j, -128 ≤ c j ∧ c j ≤ 127) (hm : n ≤ 1048576) (hA : Ac w g n c) (h0 : 1 ≤ W ∧ W ≤ 9) (h1 : 1 ≤ H ∧ H ≤ 9) (hF : 0 ≤ F ∧ F ≤ 200) (rX rY : Int) (rh : Nat → Int) (z : Int) (nn : Nat) (ff : Nat → Int) (hz : (¬ GValid W H (fun _ => 0) n c ∧ rX = 0 ∧ rY = 0 ∧ rh = (fun _ => 0) ∧ z = 2 ∧ nn = 0 ∧ ff = (fun _ => 0)) ∨ (GValid W H (fun _ => 0) n c ∧ n = 0 ∧ rX = 0 ∧ rY = 0 ∧ rh = (fun _ => 0) ∧ z = 6 ∧ nn = 0 ∧ ff = (fun _ => 0)) ∨ (GValid W H (fun _ => 0) n c ∧ n ≠ 0 ∧ (∃ i, i < W * H ∧ Over W c n F i) ∧ rX = 0 ∧ rY = 0 ∧ rh = (fun _ => 0) ∧ z = 3 ∧ nn = 0 ∧ ff = (fun _ => 0)) ∨ (GValid W H (fun _ => 0) n c ∧ n ≠ 0 ∧ (∀ i, i < W * H → ¬ Over W c n F i) ∧ rX = W ∧ rY = H ∧ rh = gA W H (fun _ => 0) (sF c n F) ∧ z = 0 ∧ nn = n ∧ ff = c)) :
    Calls Try.prog 63 #[.int .i64 (W : Int), .int .i64 (H : Int), (.slice (some ⟨g, 0, none⟩) n n), .int .i64 F] w fun e w' => Below w.heap.size w w' ∧ ∃ v, e = .returned (.tuple #[.agg (gV rX rY rh v), .int .i64 z]) ∧ HasSlice .i8 2 w' w.heap.size v nn ff := by
  obtain ⟨i0, hi, hz0, hz1, hz2⟩ := info_parts infoCell
  have hW : W ≤ 9 := h0.2
  have hH : H ≤ 9 := h1.2
  have HC := Lib.hid hc
  have HZ := Lib.hid hz
  clear hc hz
  have wW : IntKind.i8.wrap (W : Int) = (W : Int) := IntWalk.i8_in _ (by omega)
  have wH : IntKind.i8.wrap (H : Int) = (H : Int) := IntWalk.i8_in _ (by omega)
  have hgw := hA.1
  have X8 := Bx.new w Try.zeroCells33 33
  have B := al (Below.refl w.heap.size w) (.cells Try.zeroCells33 33)
  replace hA := hA.alloc (.cells Try.zeroCells33 33)
  go_enter Try.func63, Try.ntmps63
  have W0 : ∃ W0 : World, W0 = w.alloc (.cells Try.zeroCells33 33) := ⟨_, rfl⟩
  go_upto_region 1 with fail
  obtain ⟨W0, hW0⟩ := W0
  rw [← hW0] at X8 B hA ⊢
  clear hW0
  have hz8 := X8.lt
  go_wp2_with fail
  refine (inn_yes (W : Int) 1 9 _ (by omega) (by omega)).mono ?_
  rintro e w1 ⟨rfl, rfl⟩
  go_wp2_with fail
  refine (inn_yes (H : Int) 1 9 _ (by omega) (by omega)).mono ?_
  rintro e w1 ⟨rfl, rfl⟩
  go_wp2_with fail
  refine (inn_yes F 0 200 _ hF.1 hF.2).mono ?_
  rintro e w1 ⟨rfl, rfl⟩
  have R1 := Lib.hid (hA.alloc (.cells #[] 40)).rd
  have X8a := X8.alloc (.cells #[] 40)
  have hAa := hA.alloc (.cells #[] 40)
  have hb1 := al B (.cells #[] 40)
  clear hA X8 B
  go_upto_region 4 with (first
    | (at_builtin
       refine wpList_append_own _ rfl _ _ 31 rfl W0.heap.size 40 i0 (.agg #[.int .i8 0, .int .i8 0]) 2 2 Try.underlying31 hi hz0 hz1 hz2 rfl (by decide) _ _ _ rfl (World.ownsRow_made W0 #[] 0 (Nat.le_refl _) (Nat.zero_le _) rfl) ⟨g, 0, none⟩ n n (numsC n c) rfl (numsC_length n c) (numsC_news R1.out) numsC_one (by unfold maxLen; omega) (by omega) (by simp) ?_
       intro v' w3 own' hgr _
       rw [Nat.zero_add, List.nil_append] at own'
       obtain ⟨A5, cap5, rfl, hA5⟩ := OwnG.form2 own'
       have HA5 := Lib.hid hA5
       have hgr2 : (W0.alloc (.cells #[] 40)).grownBy w3 (some W0.heap.size) := hgr
       have X8 := X8a.of_block (hgr2.block _ X8a.lt (fun e => by injection e with e; omega))
       have hA := hAa.kept hgr2.size (hgr2.block _ hAa.1 (fun e => by injection e with e; omega))
       have B : Below w.heap.size w w3 := hb1.grown hgr2 (by simp; omega) (fun k e => by injection e with e; omega)
       have O : OwnG w3 W0.heap.size (.slice A5 n cap5) n c := own'
       clear own' hgr hgr2 hA5 X8a hAa hb1)
    | (refine wpList_buildTo rfl _ _ rfl _ rfl (gV W H (fun _ => 0) (.slice A5 n cap5)) (built_ground3 W H A5 n cap5) ?_)
    | (refine wpList_store_new (c' := ((Try.zeroCells33.setIfInBounds 0 (.int .i8 (W : Int))).setIfInBounds 1 (.int .i8 (H : Int))).setIfInBounds 83 (.slice A5 n cap5)) rfl _ _ _ rfl rfl rfl (by rw [built_arr]; exact infoGv _ _ _ _) (by rw [built_arr]; exact zsize) (by rw [built_arr]; exact gV_one _ _ _ _ _ _) ?_
       rw [built_arr]))
  have X10 := Bx.new w3 (gV W H (fun _ => 0) (.slice A5 n cap5)) 33
  have hs3 := X8.lt
  replace X8 := X8.alloc (.cells (gV W H (fun _ => 0) (.slice A5 n cap5)) 33)
  replace hA := hA.alloc (.cells (gV W H (fun _ => 0) (.slice A5 n cap5)) 33)
  replace O := O.alloc (.cells (gV W H (fun _ => 0) (.slice A5 n cap5)) 33)
  replace B := al B (.cells (gV W H (fun _ => 0) (.slice A5 n cap5)) 33)
  obtain ⟨W3, hW3⟩ : ∃ W3 : World, W3 = w3.alloc (.cells (gV W H (fun _ => 0) (.slice A5 n cap5)) 33) := ⟨_, rfl⟩
  rw [← hW3] at X8 X10 hA O B ⊢
  have hs33 : w3.heap.size < W3.heap.size := X10.lt
  clear hW3
  go_wp2_with fail
  refine (gok_any W H (fun _ => 0) w3.heap.size A5 n cap5 c _ (by omega) (by omega) (fun _ => (by show (-32768 : Int) ≤ 0 ∧ (0 : Int) ≤ 32767; omega)) HC.out hm X10 O.rd).mono ?_
  rintro e w4 ⟨hb, ⟨hv, rfl⟩ | ⟨hv, rfl⟩⟩
  rotate_left
  · obtain ⟨rfl, rfl, rfl, rfl, rfl, rfl⟩ : rX = 0 ∧ rY = 0 ∧ rh = (fun _ => 0) ∧ z = 2 ∧ nn = 0 ∧ ff = (fun _ => 0) := by rcases HZ.out with q | q | q | q; exact q.2; exact absurd q.1 hv; exact absurd q.1 hv; exact absurd q.1 hv
    replace X8 := X8.below hb
    replace B := nxt B hb
    have hs4 := X8.lt
    clear hb hv HZ hA O X10
    go_wp2_with (refine wpList_store_box X8 rfl _ _ _ rfl rfl rfl infoZ rfl zeroOne ?_)
    have Y4 := (X8.setRow Try.zeroCells33).cast zeroG
    exact bodyPost_ret (results_row_tmp Try.results63 _ _ _ _ _ _ Y4 rfl Try.underlying33 rfl (infoGv _ _ _ _) (.int .i64 2) rfl) rfl ⟨setRow_below B (by omega) _, _, rfl, hasNil _ _⟩
  have h8 : n ≤ 8 := hv.1.2.2
  have hgl := hv.2.2
  have HV := Lib.hid hv
  have HGL := Lib.hid hgl
  have hs34 := hb.size
  replace hA := hA.below hb
  replace X8 := X8.below hb
  replace X10 := X10.below hb
  replace O := O.below hb
  replace B := nxt B hb
  clear hb hv hgl
  by_cases hn0 : n = 0
  · obtain ⟨rfl, rfl, rfl, rfl, rfl, rfl⟩ : rX = 0 ∧ rY = 0 ∧ rh = (fun _ => 0) ∧ z = 6 ∧ nn = 0 ∧ ff = (fun _ => 0) := by rcases HZ.out with q | q | q | q; exact absurd HV.out q.1; exact q.2.2; exact absurd hn0 q.2.1; exact absurd hn0 q.2.1
    subst hn0
    have hs4 := X8.lt
    clear HZ
    go_wp2_with (refine wpList_store_box X8 rfl _ _ _ rfl rfl rfl infoZ rfl zeroOne ?_)
    have Y4 := (X8.setRow Try.zeroCells33).cast zeroG
    exact bodyPost_ret (results_row_tmp Try.results63 _ _ _ _ _ _ Y4 rfl Try.underlying33 rfl (infoGv _ _ _ _) (.int .i64 6) rfl) rfl ⟨setRow_below B (by omega) _, _, rfl, hasNil _ _⟩
  have hn1 : ¬ ((n : Int) = 0) := by omega
  have hnb : ((n : Int) == 0) = false := by simpa using hn1
  go_wp2_with fail
  refine (gall_any W H w3.heap.size (fun _ => 0) _ _ (by omega) hW hH X10).mono ?_
  rintro e w5 ⟨hb, va, rfl, OA⟩
  obtain ⟨N, hN⟩ : ∃ N, N = W * H := ⟨_, rfl⟩
  rw [← hN] at OA
  obtain ⟨Aa, capa, rfl, hAa⟩ := OwnC.form OA
  rw [allC_length] at OA hAa ⊢
  have hs4 := hb.size
  replace hA := hA.below hb
  replace X8 := X8.below hb
  replace X10 := X10.below hb
  replace O := O.below hb
  replace B := nxt B hb
  clear hb
  have hs44 : W3.heap.size ≤ w4.heap.size := hs34
  replace OA : OwnC w5 W3.heap.size (.slice Aa N capa) (allC W N) := World.ownsRow.mono OA hs44
  have hN81 : N ≤ 81 := by rw [hN]; exact Nat.mul_le_mul hW hH
  have HN := Lib.hid hN
  clear hN hn1
  go_wp2_with fail
  go_loopw [12, 13, 14, 15, 16] (fun t12 t13 t14 t15 t16 wr => ∃ i : Nat, i ≤ N ∧ t12 = .int .i64 i ∧ Below w.heap.size w wr ∧ Ac wr g n c ∧ OwnC wr W3.heap.size (.slice Aa N capa) (allC W N) ∧ Bx wr w.heap.size Try.zeroCells33 33 ∧ Bx wr w3.heap.size (gV W H (gU W H (fun _ => 0) (sF c n F) i) (.slice A5 n cap5)) 33 ∧ OwnG wr W0.heap.size (.slice A5 n cap5) n c ∧ ∀ j, j < i → ¬ Over W c n F j) (fun t12 t13 t14 t15 t16 _ => N - (intOf t12).toNat)
  case atStart => exact ⟨0, by omega, rfl, B, hA, OA, X8, X10.cast (gV_congr fun p _ => (gU_zero (f0 := fun _ => 0) p).symm), O, fun j hj => absurd hj (by omega)⟩
  case round =>
    clear B hA OA X8 X10 O
    obtain ⟨i, hi, rfl, B, hA, OA, X8, X10, O, hno⟩ := hrel
    obtain ⟨wo, rfl⟩ : ∃ wo : World, wo = wr := ⟨_, rfl⟩
    have HNO := Lib.hid hno
    clear hno
    by_cases hlt : i < N
    · have hii : (i : Int) < N := by omega
      obtain ⟨ga, rfl, hga, _⟩ := hAa (by omega)
      obtain ⟨x, y, hxy⟩ : ∃ x y, cl W i = (x, y) := ⟨_, _, rfl⟩
      have hbd := cl_lt (by omega : W ≤ 12) (by omega : H ≤ 12) (show i < W * H by rw [← HN.out]; exact hlt)
      have hix : W * y + x = i := by
        have := Nat.div_add_mod i W
        have e1 : i % W = x := congrArg Prod.fst hxy
        have e2 : i / W = y := congrArg Prod.snd hxy
        rw [e1, e2] at this
        exact this
      have hov : Over W c n F i ↔ 200 < mnS c x y n * F := by unfold Over; rw [hxy]
      rw [hxy] at hbd
      obtain ⟨hx, hy⟩ := hbd
      dsimp only at hx hy
      have hxi : (x : Int) < 9 := by omega
      have hyi : (y : Int) < 9 := by omega
      have HXY := Lib.hid hxy
      have HIX := Lib.hid hix
      have HOV := Lib.hid hov
      have hgne : ga ≠ w3.heap.size := by omega
      clear hxy hix hov
      go_wp2_with fail
      go_loopw [13, 14, 15, 16] (fun t13 t14 t15 t16 wr => ∃ k : Nat, k ≤ n ∧ t14 = .int .i64 k ∧ t13 = .int .i64 (mnS c x y k) ∧ Below w.heap.size w wr ∧ Ac wr g n c ∧ OwnC wr W3.heap.size (.slice (some ⟨ga, 0, none⟩) N capa) (allC W N) ∧ Bx wr w.heap.size Try.zeroCells33 33 ∧ Bx wr w3.heap.size (gV W H (gU W H (fun _ => 0) (sF c n F) i) (.slice A5 n cap5)) 33 ∧ OwnG wr W0.heap.size (.slice A5 n cap5) n c) (fun t13 t14 t15 t16 _ => n - (intOf t14).toNat)
      case atStart => exact ⟨0, by omega, rfl, rfl, B, hA, OA, X8, X10, O⟩
      case round =>
        clear B hA OA X8 X10 O
        obtain ⟨k, hk, rfl, rfl, B, hA, OA, X8, X10, O⟩ := hrel
        obtain ⟨wi, rfl⟩ : ∃ wi : World, wi = wr := ⟨_, rfl⟩
        obtain ⟨m1, m2, _⟩ := mnS_in hW hH hx hy HGL.out k hk
        by_cases hlk : k < n
        · have hki : (k : Int) < n := by omega
          obtain ⟨⟨⟨g1, g2⟩, g3, g4⟩, _⟩ := HGL.out k hlk
          have hds := ds_in hW hH hx hy HGL.out hlk
          have hms : mnS c x y (k + 1) = if mnS c x y k < ds c x y k then mnS c x y k else ds c x y k := rfl
          have hdd : ds c x y k = ab ((x : Int) - c (2 * k)) + ab ((y : Int) - c (2 * k + 1)) := rfl
          obtain ⟨bg, off, heq, _, e0, e1⟩ := rdCell hA.rd hlk
          obtain ⟨rfl, rfl⟩ : g = bg ∧ 0 = off := by injection heq with heq; injection heq with q1 q2; exact ⟨q1, q2⟩
          rw [Nat.zero_add] at e0 e1
          obtain ⟨c0, c1⟩ := OwnC.get OA (allC_length W N) (q := (x, y)) (by rw [allC_get W N i hlt, HXY.out])
          dsimp only at c0 c1
          have HMS := Lib.hid hms
          have HDD := Lib.hid hdd
          obtain ⟨ms, hms1⟩ : ∃ ms, ms = mnS c x y k := ⟨_, rfl⟩
          rw [← hms1] at m1 m2 HMS ⊢
          clear hms hdd heq hms1
          have w1_ : IntKind.i64.wrap ((x : Int) - c (2 * k)) = (x : Int) - c (2 * k) := IntWalk.i64_in _ (by omega)
          have w2_ : IntKind.i64.wrap ((y : Int) - c (2 * k + 1)) = (y : Int) - c (2 * k + 1) := IntWalk.i64_in _ (by omega)
          go_wp2
          refine wp_region_held_drew (S := (fun w' : World => w'.cell? ⟨ga, i * 2, none⟩ = some (.int .i8 (x : Int)) ∧ w'.cell? ⟨g, k * 2, none⟩ = some (.int .i8 (c (2 * k))))) (by kernel_rfl) ⟨c0, e0⟩ (fun hHeld => ?_)
          refine wpAnyH_take (i := 0) (oi := _) (v := ?_) rfl (by kernel_rfl) (by kernel_rfl) (by kernel_rfl) (fun _ _ _ h => h) (Or.inl ⟨by kernel_rfl, ?_⟩) (by assumption) ?_
          rotate_left
          · intro w hSw; (try dsimp only at hSw); go_simp; first | done | with_reducible rfl
          try simp only [List.getElem_toArray, List.getElem_cons_zero, List.getElem_cons_succ, Act.put, List.setIfInBounds_toArray, List.set_cons_zero, List.set_cons_succ]
          refine wpAnyH_take (i := 1) (oi := _) (v := ?_) rfl (by kernel_rfl) (by kernel_rfl) (by kernel_rfl) (fun _ _ _ h => h) (Or.inl ⟨by kernel_rfl, ?_⟩) (by assumption) ?_
          rotate_left
          · intro w hSw; (try dsimp only at hSw); go_simp; first | done | with_reducible rfl
          try simp only [List.getElem_toArray, List.getElem_cons_zero, List.getElem_cons_succ, Act.put, List.setIfInBounds_toArray, List.set_cons_zero, List.set_cons_succ]
          refine wpAnyH_take (i := 2) (oi := _) (v := ?_) rfl (by kernel_rfl) (by kernel_rfl) (by kernel_rfl) (fun _ _ _ h => h) (Or.inl ⟨by kernel_rfl, ?_⟩) (by assumption) ?_
          rotate_left
          · intro w hSw; (try dsimp only at hSw); go_simp; first | done | with_reducible rfl
          try simp only [List.getElem_toArray, List.getElem_cons_zero, List.getElem_cons_succ, Act.put, List.setIfInBounds_toArray, List.set_cons_zero, List.set_cons_succ]
          refine wpAnyH_take (i := 3) (oi := _) (v := ?_) rfl (by kernel_rfl) (by kernel_rfl) (by kernel_rfl) (fun _ _ _ h => h) (Or.inl ⟨by kernel_rfl, ?_⟩) (by assumption) ?_
          rotate_left
          · intro w hSw; (try dsimp only at hSw); go_simp; first | done | with_reducible rfl
          try simp only [List.getElem_toArray, List.getElem_cons_zero, List.getElem_cons_succ, Act.put, List.setIfInBounds_toArray, List.set_cons_zero, List.set_cons_succ]
          refine wpAnyH_take (i := 4) (oi := _) (v := ?_) rfl (by kernel_rfl) (by kernel_rfl) (by kernel_rfl) (fun _ _ _ h => h) (Or.inl ⟨by kernel_rfl, ?_⟩) (by assumption) ?_
          rotate_left
          · intro w hSw; (try dsimp only at hSw); go_simp; first | done | with_reducible rfl
          try simp only [List.getElem_toArray, List.getElem_cons_zero, List.getElem_cons_succ, Act.put, List.setIfInBounds_toArray, List.set_cons_zero, List.set_cons_succ]
          refine wpAnyH_take (i := 5) (oi := _) (v := ?_) rfl (by kernel_rfl) (by kernel_rfl) (by kernel_rfl) (fun _ _ _ h => h) (Or.inl ⟨by kernel_rfl, ?_⟩) (by assumption) ?_
          rotate_left
          · intro w hSw; (try dsimp only at hSw); go_simp; first | done | with_reducible rfl
          try simp only [List.getElem_toArray, List.getElem_cons_zero, List.getElem_cons_succ, Act.put, List.setIfInBounds_toArray, List.set_cons_zero, List.set_cons_succ]
          refine wpAnyH_take (i := 6) (oi := _) (v := ?_) rfl (by kernel_rfl) (by kernel_rfl) (by kernel_rfl) (fun _ _ _ h => h) (Or.inl ⟨by kernel_rfl, ?_⟩) (by assumption) ?_
          rotate_left
          · intro w hSw; (try dsimp only at hSw); go_simp; first | done | with_reducible rfl
          try simp only [List.getElem_toArray, List.getElem_cons_zero, List.getElem_cons_succ, Act.put, List.setIfInBounds_toArray, List.set_cons_zero, List.set_cons_succ]
          refine wpAnyH_take (i := 7) (oi := _) (v := ?_) rfl (by kernel_rfl) (by kernel_rfl) (by kernel_rfl) (fun _ _ _ h => h) (Or.inl ⟨by kernel_rfl, ?_⟩) (by assumption) ?_
          rotate_left
          · intro w hSw; (try dsimp only at hSw); go_simp; first | done | with_reducible rfl
          try simp only [List.getElem_toArray, List.getElem_cons_zero, List.getElem_cons_succ, Act.put, List.setIfInBounds_toArray, List.set_cons_zero, List.set_cons_succ]
          refine wpAnyH_take (i := 8) (oi := _) (v := ?_) rfl (by kernel_rfl) (by kernel_rfl) (by kernel_rfl) (fun _ _ _ h => h) (Or.inl ⟨by kernel_rfl, ?_⟩) (by assumption) ?_
          rotate_left
          · intro w hSw; (try dsimp only at hSw); go_simp; first | done | with_reducible rfl
          try simp only [List.getElem_toArray, List.getElem_cons_zero, List.getElem_cons_succ, Act.put, List.setIfInBounds_toArray, List.set_cons_zero, List.set_cons_succ]
          refine wpAnyH_take (i := 9) (oi := _) (v := ?_) rfl (by kernel_rfl) (by kernel_rfl) (by kernel_rfl) (fun _ _ _ h => h) (Or.inl ⟨by kernel_rfl, ?_⟩) (by assumption) ?_
          rotate_left
          · intro w hSw; (try dsimp only at hSw); go_simp; first | done | with_reducible rfl
          try simp only [List.getElem_toArray, List.getElem_cons_zero, List.getElem_cons_succ, Act.put, List.setIfInBounds_toArray, List.set_cons_zero, List.set_cons_succ]
          refine wpAnyH_take (i := 10) (oi := _) (v := ?_) rfl (by kernel_rfl) (by kernel_rfl) (by kernel_rfl) (fun _ _ _ h => h) (Or.inl ⟨by kernel_rfl, ?_⟩) (by assumption) ?_
          rotate_left
          · intro w hSw; (try dsimp only at hSw); go_simp; first | done | with_reducible rfl
          try simp only [List.getElem_toArray, List.getElem_cons_zero, List.getElem_cons_succ, Act.put, List.setIfInBounds_toArray, List.set_cons_zero, List.set_cons_succ]
          refine wpAnyH_take (i := 11) (oi := _) (v := ?_) rfl (by kernel_rfl) (by kernel_rfl) (by kernel_rfl) (fun _ _ _ h => h) (Or.inl ⟨by kernel_rfl, ?_⟩) (by assumption) ?_
          rotate_left
          · intro w hSw; (try dsimp only at hSw); go_simp; first | done | with_reducible rfl
          try simp only [List.getElem_toArray, List.getElem_cons_zero, List.getElem_cons_succ, Act.put, List.setIfInBounds_toArray, List.set_cons_zero, List.set_cons_succ]
          refine wpAnyH_take (i := 12) (oi := _) (v := ?_) rfl (by kernel_rfl) (by kernel_rfl) (by kernel_rfl) (fun _ _ _ h => h) (Or.inl ⟨by kernel_rfl, ?_⟩) (by assumption) ?_
          rotate_left
          · intro w hSw; (try dsimp only at hSw); go_simp; first | done | with_reducible rfl
          try simp only [List.getElem_toArray, List.getElem_cons_zero, List.getElem_cons_succ, Act.put, List.setIfInBounds_toArray, List.set_cons_zero, List.set_cons_succ]
          refine wpAnyH_take (i := 13) (oi := _) (v := ?_) rfl (by kernel_rfl) (by kernel_rfl) (by kernel_rfl) (fun _ _ _ h => h) (Or.inl ⟨by kernel_rfl, ?_⟩) (by assumption) ?_
          rotate_left
          · intro w hSw; (try dsimp only at hSw); go_simp; first | done | with_reducible rfl
          try simp only [List.getElem_toArray, List.getElem_cons_zero, List.getElem_cons_succ, Act.put, List.setIfInBounds_toArray, List.set_cons_zero, List.set_cons_succ]
          refine wpAnyH_done (by kernel_rfl) ?_ _
          replace hA := hA.drew
          replace OA := OA.drew
          replace X8 := X8.drew
          replace X10 := X10.drew
          replace O := O.drew
          replace B := B.drew
          replace c1 : wi.drew.cell? ⟨ga, i * 2 + 1, none⟩ = some (.int .i8 (y : Int)) := c1
          replace e1 : wi.drew.cell? ⟨g, k * 2 + 1, none⟩ = some (.int .i8 (c (2 * k + 1))) := e1
          generalize World.drew _ = wj at hA OA X8 X10 O B c1 e1 hHeld ⊢
          clear hHeld
          go_wp2
          refine wp_region_held_drew (S := (fun w' : World => w'.cell? ⟨ga, i * 2 + 1, none⟩ = some (.int .i8 (y : Int)) ∧ w'.cell? ⟨g, k * 2 + 1, none⟩ = some (.int .i8 (c (2 * k + 1))))) (by kernel_rfl) ⟨c1, e1⟩ (fun hHeld => ?_)
          refine wpAnyH_take (i := 0) (oi := _) (v := ?_) rfl (by kernel_rfl) (by kernel_rfl) (by kernel_rfl) (fun _ _ _ h => h) (Or.inl ⟨by kernel_rfl, ?_⟩) (by assumption) ?_
          rotate_left
          · intro w hSw; (try dsimp only at hSw); go_simp; first | done | with_reducible rfl
          try simp only [List.getElem_toArray, List.getElem_cons_zero, List.getElem_cons_succ, Act.put, List.setIfInBounds_toArray, List.set_cons_zero, List.set_cons_succ]
          refine wpAnyH_take (i := 1) (oi := _) (v := ?_) rfl (by kernel_rfl) (by kernel_rfl) (by kernel_rfl) (fun _ _ _ h => h) (Or.inl ⟨by kernel_rfl, ?_⟩) (by assumption) ?_
          rotate_left
          · intro w hSw; (try dsimp only at hSw); go_simp; first | done | with_reducible rfl
          try simp only [List.getElem_toArray, List.getElem_cons_zero, List.getElem_cons_succ, Act.put, List.setIfInBounds_toArray, List.set_cons_zero, List.set_cons_succ]
          refine wpAnyH_take (i := 2) (oi := _) (v := ?_) rfl (by kernel_rfl) (by kernel_rfl) (by kernel_rfl) (fun _ _ _ h => h) (Or.inl ⟨by kernel_rfl, ?_⟩) (by assumption) ?_
          rotate_left
          · intro w hSw; (try dsimp only at hSw); go_simp; first | done | with_reducible rfl
          try simp only [List.getElem_toArray, List.getElem_cons_zero, List.getElem_cons_succ, Act.put, List.setIfInBounds_toArray, List.set_cons_zero, List.set_cons_succ]
          refine wpAnyH_take (i := 3) (oi := _) (v := ?_) rfl (by kernel_rfl) (by kernel_rfl) (by kernel_rfl) (fun _ _ _ h => h) (Or.inl ⟨by kernel_rfl, ?_⟩) (by assumption) ?_
          rotate_left
          · intro w hSw; (try dsimp only at hSw); go_simp; first | done | with_reducible rfl
          try simp only [List.getElem_toArray, List.getElem_cons_zero, List.getElem_cons_succ, Act.put, List.setIfInBounds_toArray, List.set_cons_zero, List.set_cons_succ]
          refine wpAnyH_take (i := 4) (oi := _) (v := ?_) rfl (by kernel_rfl) (by kernel_rfl) (by kernel_rfl) (fun _ _ _ h => h) (Or.inl ⟨by kernel_rfl, ?_⟩) (by assumption) ?_
          rotate_left
          · intro w hSw; (try dsimp only at hSw); go_simp; first | done | with_reducible rfl
          try simp only [List.getElem_toArray, List.getElem_cons_zero, List.getElem_cons_succ, Act.put, List.setIfInBounds_toArray, List.set_cons_zero, List.set_cons_succ]
          refine wpAnyH_take (i := 5) (oi := _) (v := ?_) rfl (by kernel_rfl) (by kernel_rfl) (by kernel_rfl) (fun _ _ _ h => h) (Or.inl ⟨by kernel_rfl, ?_⟩) (by assumption) ?_
          rotate_left
          · intro w hSw; (try dsimp only at hSw); go_simp; first | done | with_reducible rfl
          try simp only [List.getElem_toArray, List.getElem_cons_zero, List.getElem_cons_succ, Act.put, List.setIfInBounds_toArray, List.set_cons_zero, List.set_cons_succ]
          refine wpAnyH_take (i := 6) (oi := _) (v := ?_) rfl (by kernel_rfl) (by kernel_rfl) (by kernel_rfl) (fun _ _ _ h => h) (Or.inl ⟨by kernel_rfl, ?_⟩) (by assumption) ?_
          rotate_left
          · intro w hSw; (try dsimp only at hSw); go_simp; first | done | with_reducible rfl
          try simp only [List.getElem_toArray, List.getElem_cons_zero, List.getElem_cons_succ, Act.put, List.setIfInBounds_toArray, List.set_cons_zero, List.set_cons_succ]
          refine wpAnyH_take (i := 7) (oi := _) (v := ?_) rfl (by kernel_rfl) (by kernel_rfl) (by kernel_rfl) (fun _ _ _ h => h) (Or.inl ⟨by kernel_rfl, ?_⟩) (by assumption) ?_
          rotate_left
          · intro w hSw; (try dsimp only at hSw); go_simp; first | done | with_reducible rfl
          try simp only [List.getElem_toArray, List.getElem_cons_zero, List.getElem_cons_succ, Act.put, List.setIfInBounds_toArray, List.set_cons_zero, List.set_cons_succ]
          refine wpAnyH_take (i := 8) (oi := _) (v := ?_) rfl (by kernel_rfl) (by kernel_rfl) (by kernel_rfl) (fun _ _ _ h => h) (Or.inl ⟨by kernel_rfl, ?_⟩) (by assumption) ?_
          rotate_left
          · intro w hSw; (try dsimp only at hSw); go_simp; first | done | with_reducible rfl
          try simp only [List.getElem_toArray, List.getElem_cons_zero, List.getElem_cons_succ, Act.put, List.setIfInBounds_toArray, List.set_cons_zero, List.set_cons_succ]
          refine wpAnyH_take (i := 9) (oi := _) (v := ?_) rfl (by kernel_rfl) (by kernel_rfl) (by kernel_rfl) (fun _ _ _ h => h) (Or.inl ⟨by kernel_rfl, ?_⟩) (by assumption) ?_
          rotate_left
          · intro w hSw; (try dsimp only at hSw); go_simp; first | done | with_reducible rfl
          try simp only [List.getElem_toArray, List.getElem_cons_zero, List.getElem_cons_succ, Act.put, List.setIfInBounds_toArray, List.set_cons_zero, List.set_cons_succ]
          refine wpAnyH_take (i := 10) (oi := _) (v := ?_) rfl (by kernel_rfl) (by kernel_rfl) (by kernel_rfl) (fun _ _ _ h => h) (Or.inl ⟨by kernel_rfl, ?_⟩) (by assumption) ?_
          rotate_left
          · intro w hSw; (try dsimp only at hSw); go_simp; first | done | with_reducible rfl
          try simp only [List.getElem_toArray, List.getElem_cons_zero, List.getElem_cons_succ, Act.put, List.setIfInBounds_toArray, List.set_cons_zero, List.set_cons_succ]
          refine wpAnyH_take (i := 11) (oi := _) (v := ?_) rfl (by kernel_rfl) (by kernel_rfl) (by kernel_rfl) (fun _ _ _ h => h) (Or.inl ⟨by kernel_rfl, ?_⟩) (by assumption) ?_
          rotate_left
          · intro w hSw; (try dsimp only at hSw); go_simp; first | done | with_reducible rfl
          try simp only [List.getElem_toArray, List.getElem_cons_zero, List.getElem_cons_succ, Act.put, List.setIfInBounds_toArray, List.set_cons_zero, List.set_cons_succ]
          refine wpAnyH_take (i := 12) (oi := _) (v := ?_) rfl (by kernel_rfl) (by kernel_rfl) (by kernel_rfl) (fun _ _ _ h => h) (Or.inl ⟨by kernel_rfl, ?_⟩) (by assumption) ?_
          rotate_left
          · intro w hSw; (try dsimp only at hSw); go_simp; first | done | with_reducible rfl
          try simp only [List.getElem_toArray, List.getElem_cons_zero, List.getElem_cons_succ, Act.put, List.setIfInBounds_toArray, List.set_cons_zero, List.set_cons_succ]
          refine wpAnyH_take (i := 13) (oi := _) (v := ?_) rfl (by kernel_rfl) (by kernel_rfl) (by kernel_rfl) (fun _ _ _ h => h) (Or.inl ⟨by kernel_rfl, ?_⟩) (by assumption) ?_
          rotate_left
          · intro w hSw; (try dsimp only at hSw); go_simp; first | done | with_reducible rfl
          try simp only [List.getElem_toArray, List.getElem_cons_zero, List.getElem_cons_succ, Act.put, List.setIfInBounds_toArray, List.set_cons_zero, List.set_cons_succ]
          refine wpAnyH_done (by kernel_rfl) ?_ _
          replace hA := hA.drew
          replace OA := OA.drew
          replace X8 := X8.drew
          replace X10 := X10.drew
          replace O := O.drew
          replace B := B.drew
          clear c1 e1 c0 e0
          generalize World.drew _ = wk at hA OA X8 X10 O B hHeld ⊢
          clear hHeld
          have w3_ : IntKind.i64.wrap (- ((x : Int) - c (2 * k))) = - ((x : Int) - c (2 * k)) := IntWalk.i64_in _ (by omega)
          have w4_ : IntKind.i64.wrap (- ((y : Int) - c (2 * k + 1))) = - ((y : Int) - c (2 * k + 1)) := IntWalk.i64_in _ (by omega)
          go_wp2_with fail
          refine (gmax_any _ _ (ab ((x : Int) - c (2 * k))) _ (by unfold ab; split <;> omega)).mono ?_
          rintro e w6 ⟨rfl, hb⟩
          replace hA := hA.below hb
          replace OA := OwnC.below OA hb
          replace X8 := X8.below hb
          replace X10 := X10.below hb
          replace O := O.below hb
          replace B := nxt B hb
          clear hb
          go_wp2_with fail
          refine (gmax_any _ _ (ab ((y : Int) - c (2 * k + 1))) _ (by unfold ab; split <;> omega)).mono ?_
          rintro e w7 ⟨rfl, hb⟩
          replace hA := hA.below hb
          replace OA := OwnC.below OA hb
          replace X8 := X8.below hb
          replace X10 := X10.below hb
          replace O := O.below hb
          replace B := nxt B hb
          clear hb
          have w5_ : IntKind.i64.wrap (ab ((x : Int) - c (2 * k)) + ab ((y : Int) - c (2 * k + 1))) = ds c x y k := by rw [← HDD.out]; exact IntWalk.i64_in _ (by omega)
          go_wp2_with fail
          refine (gmin_any _ _ (mnS c x y (k + 1)) _ (by rw [HMS.out]; split <;> omega)).mono ?_
          rintro e w8 ⟨rfl, hb⟩
          replace hA := hA.below hb
          replace OA := OwnC.below OA hb
          replace X8 := X8.below hb
          replace X10 := X10.below hb
          replace O := O.below hb
          replace B := nxt B hb
          clear hb
          go_wp2
          exact ⟨⟨k + 1, by omega, by first | go_num | simp, rfl, B, hA, OA, X8, X10, O⟩, by simp [intOf]; omega⟩
        · obtain rfl : k = n := by omega
          have hprod : 0 ≤ mnS c x y k * F ∧ mnS c x y k * F ≤ 20000 := by
            constructor
            · exact Int.mul_nonneg m1 hF.1
            · have := Int.mul_le_mul m2 hF.2 hF.1 (by omega : (0 : Int) ≤ 100); omega
          have hsf := sF_at (c := c) (n := k) (fall := F) (x := x) (y := y) (by omega)
          obtain ⟨ht0, hht⟩ : ∃ ht0, ht0 = mnS c x y k * F := ⟨_, rfl⟩
          have wp_ : IntKind.i64.wrap (mnS c x y k * F) = ht0 := by rw [hht]; exact IntWalk.i64_in _ (by omega)
          rw [← hht] at hprod hsf HOV
          obtain ⟨ms, hms1⟩ : ∃ ms, ms = mnS c x y k := ⟨_, rfl⟩
          rw [← hms1] at wp_ ⊢
          have HSF := Lib.hid hsf
          clear hsf hht hms1 m1 m2
          by_cases hov : 200 < ht0
          · have hO := HOV.out.2 hov
            obtain ⟨rfl, rfl, rfl, rfl, rfl, rfl⟩ : rX = 0 ∧ rY = 0 ∧ rh = (fun _ => 0) ∧ z = 3 ∧ nn = 0 ∧ ff = (fun _ => 0) := by
              rcases HZ.out with q | q | q | q
              · exact absurd HV.out q.1
              · exact absurd q.2.1 hn0
              · exact q.2.2.2
              · exact absurd hO (q.2.2.1 i (by rw [← HN.out]; exact hlt))
            have hs4 := X8.lt
            clear HZ hO HOV
            go_wp2_with (refine wpList_store_box X8 rfl _ _ _ rfl rfl rfl infoZ rfl zeroOne ?_)
            have Y4 := (X8.setRow Try.zeroCells33).cast zeroG
            exact bodyPost_ret (results_row_tmp Try.results63 _ _ _ _ _ _ Y4 rfl Try.underlying33 rfl (infoGv _ _ _ _) (.int .i64 3) rfl) rfl ⟨setRow_below B (by omega) _, _, rfl, hasNil _ _⟩
          · have hnO : ¬ Over W c k F i := fun h => hov (HOV.out.1 h)
            have HNO2 := Lib.hid hnO
            obtain ⟨c0, c1⟩ := OwnC.get OA (allC_length W N) (q := (x, y)) (by rw [allC_get W N i hlt, HXY.out])
            dsimp only at c0 c1
            clear hnO HOV
            have wz : IntKind.i16.wrap ht0 = ht0 := IntWalk.i16_in _ (by omega)
            have hc7 := X10.cell (2 + y * 9 + x)
            have f7 := X10.frozen (2 + y * 9 + x)
            rw [show 2 + y * 9 + x = 2 + (y * 9 + x) by omega, gV_h _ _ _ _ (by omega : y * 9 + x < 81), show 2 + (y * 9 + x) = 2 + y * 9 + x by omega] at hc7
            have hX7 := X10.set (2 + y * 9 + x) (.int .i16 ht0)
            rw [show 2 + y * 9 + x = 2 + (y * 9 + x) by omega, gV_seth _ _ _ _ (by omega : y * 9 + x < 81), show 2 + (y * 9 + x) = 2 + y * 9 + x by omega] at hX7
            have HX7 := Lib.hid hX7
            have OX := Lib.hid (O.setNe (i := 2 + y * 9 + x) (u := .int .i16 ht0) (b := w3.heap.size) (fun g e => by have := (HA5.out g e).2; omega))
            generalize gU W H (fun _ => 0) (sF c k F) i (y * 9 + x) = old at hc7
            clear hX7
            go_wp2
            go_still_tail 17, (by kernel_rfl)
            change wpList _ _ _ _ _ (World.drew _)
            go_wp2
            refine ⟨⟨i + 1, by omega, by first | go_num | simp, B.drew.setCell (p := ⟨w3.heap.size, 2 + y * 9 + x, none⟩) (by show w.heap.size ≤ w3.heap.size; omega) _, hA.drew.kept (by simp) (Below.heap_setCell _ _ _ _ (by simp; omega)), OwnC.setOther OA.drew (by omega), X8.drew.other _ (by omega), HX7.out.cast (gV_congr fun p hp => ?_), OX.out, fun j hj => ?_⟩, by simp [intOf]; omega⟩
            · have := gU_step (f0 := fun _ => 0) (f1 := sF c k F) hx hy hW p hp
              rw [HIX.out, HSF.out] at this
              exact this
            · by_cases e : j = i
              · subst e; exact HNO2.out
              · exact HNO.out j (by omega)
    · obtain rfl : i = N := by omega
      obtain ⟨rfl, rfl, rfl, rfl, rfl, rfl⟩ : rX = (W : Int) ∧ rY = (H : Int) ∧ rh = gA W H (fun _ => 0) (sF c n F) ∧ z = 0 ∧ nn = n ∧ ff = c := by
        rcases HZ.out with q | q | q | q
        · exact absurd HV.out q.1
        · exact absurd q.2.1 hn0
        · obtain ⟨j, hj, hjo⟩ := q.2.2.1
          exact absurd hjo (HNO.out j (by rw [HN.out]; exact hj))
        · exact q.2.2.2
      replace X10 : Bx wo w3.heap.size (gV W H (gA W H (fun _ => 0) (sF ff nn F)) (.slice A5 nn cap5)) 33 := X10.cast (gV_congr fun p _ => by rw [HN.out]; exact gU_all p)
      have hs4 := X8.lt
      clear HZ
      go_wp2_with (first
        | (refine wpList_load_box X10 rfl _ _ rfl rfl _ Try.underlying33 rfl (infoGv _ _ _ _) ?_)
        | (refine wpList_store_box X8 rfl _ _ _ rfl rfl rfl (infoGv _ _ _ _) zsize (gV_one _ _ _ _ _ _) ?_))
      have Y4 := X8.setRow (gV W H (gA W H (fun _ => 0) (sF ff nn F)) (.slice A5 nn cap5))
      exact bodyPost_ret (results_row_tmp Try.results63 _ _ _ _ _ _ Y4 rfl Try.underlying33 rfl (infoGv _ _ _ _) (.int .i64 0) rfl) rfl ⟨setRow_below B (by omega) _, _, rfl, ((O.setRow _ (by omega)).mono (by omega)).has⟩

end slopeGround
end Go.Proofs.Ytegnhpanlbfmdaa
