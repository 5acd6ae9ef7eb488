/-
  Both sides of DrainsTo answer the same. Conditions stand at each.
-/
import Derived.Test.YtegnhpanlbfmdaaRows
import Derived.Test.YtegnhpanlbfmdaaLandAt
import Derived.Test.YtegnhpanlbfmdaaRunI
namespace Go.Proofs.Ytegnhpanlbfmdaa
open Go Go.ChangeShapes Go.WideShapes Go.ChangeAt Go.RowKit
set_option linter.unusedVariables false
set_option linter.unusedSimpArgs false
set_option maxRecDepth 100000
set_option maxHeartbeats 4000000

namespace drainsTo
theorem spec_bad (X Y : Int) (h : Nat → Int) (g n : Nat) (c : Nat → Int) (a b : Int) (w : World) (hX : -128 ≤ X ∧ X ≤ 127) (hY : -128 ≤ Y ∧ Y ≤ 127) (hh : ∀ p, -32768 ≤ h p ∧ h p ≤ 32767) (hc : ∀ j, -128 ≤ c j ∧ c j ≤ 127) (hm : n ≤ 1048576) (ha : -128 ≤ a ∧ a ≤ 127) (hb : -128 ≤ b ∧ b ≤ 127) (hA : Ac w g n c) (z : Int) (hz : (¬ GValid X Y h n c ∧ z = 1) ∨ (GValid X Y h n c ∧ ¬ gIs X Y a b ∧ z = 2)) :
    Calls Try.prog 42 #[.agg (gV X Y h (.slice (some ⟨g, 0, none⟩) n n)), .agg #[.int .i8 a, .int .i8 b]] w fun e w' => Below w.heap.size w w' ∧ e = .returned (.tuple #[.int .i64 0, .int .i64 z]) := by
  have HH := Lib.hid hh
  have HC := Lib.hid hc
  have HZ := Lib.hid hz
  clear hh hc hz
  have X2 := (Bx.new w (gV X Y h (.slice (some ⟨g, 0, none⟩) n n)) 33).alloc (.cells #[.int .i8 a, .int .i8 b] 40)
  have B := al (al (Below.refl w.heap.size w) (.cells (gV X Y h (.slice (some ⟨g, 0, none⟩) n n)) 33)) (.cells #[.int .i8 a, .int .i8 b] 40)
  replace hA := (hA.alloc (.cells (gV X Y h (.slice (some ⟨g, 0, none⟩) n n)) 33)).alloc (.cells #[.int .i8 a, .int .i8 b] 40)
  go_enter Try.func42, Try.ntmps42
  go_wp2_with fail
  by_cases hin : gIs X Y a b
  · refine (gis_yes X Y a b h _ w.heap.size _ hX hY ha hb X2 hin).mono ?_
    rintro e w1 ⟨rfl, hbl⟩
    replace X2 := X2.below hbl
    replace hA := hA.below hbl
    replace B := nxt B hbl
    have HIN := Lib.hid hin
    clear hbl hin
    go_wp2_with fail
    refine (gasked_any X Y h w.heap.size _ n n c true _ hX hY HH.out HC.out hm X2 hA.rd).mono ?_
    rintro e w2 ⟨hbl, ⟨hv, _, rfl⟩ | ⟨hv, hf, _⟩ | ⟨hv, rfl⟩⟩
    · rcases HZ.out with k | k
      · exact absurd hv k.1
      · exact absurd HIN.out k.2.1
    · cases hf
    · replace B := nxt B hbl
      obtain rfl : z = 1 := by rcases HZ.out with k | k; exact k.2; exact absurd k.1 hv
      clear hbl hv
      go_wp2
      exact bodyPost_ret (results_tmp2 Try.results42 _ _ _) rfl ⟨B, rfl⟩
  · refine (gis_no X Y a b h _ w.heap.size _ hX hY ha hb X2 hin).mono ?_
    rintro e w1 ⟨rfl, hbl⟩
    replace X2 := X2.below hbl
    replace hA := hA.below hbl
    replace B := nxt B hbl
    have HIN := Lib.hid hin
    clear hbl hin
    go_wp2_with fail
    refine (gasked_any X Y h w.heap.size _ n n c false _ hX hY HH.out HC.out hm X2 hA.rd).mono ?_
    rintro e w2 ⟨hbl, ⟨hv, hf, _⟩ | ⟨hv, _, rfl⟩ | ⟨hv, rfl⟩⟩
    · cases hf
    · replace B := nxt B hbl
      obtain rfl : z = 2 := by rcases HZ.out with k | k; exact absurd hv k.1; exact k.2.2
      clear hbl hv
      go_wp2
      exact bodyPost_ret (results_tmp2 Try.results42 _ _ _) rfl ⟨B, rfl⟩
    · replace B := nxt B hbl
      obtain rfl : z = 1 := by rcases HZ.out with k | k; exact k.2; exact absurd k.1 hv
      clear hbl hv
      go_wp2
      exact bodyPost_ret (results_tmp2 Try.results42 _ _ _) rfl ⟨B, rfl⟩

theorem spec_in (W H : Nat) (h : Nat → Int) (g n : Nat) (c : Nat → Int) (x y k : Nat) (w : World) (hh : ∀ p, -32768 ≤ h p ∧ h p ≤ 32767) (hc : ∀ j, -128 ≤ c j ∧ c j ≤ 127) (hA : Ac w g n c) (hv : GValid W H h n c) (hx : x < W) (hy : y < H) (hk : Ends W H h n c (x, y) k) (z0 z1 : Int) (hz : (∃ i : Nat, i < n ∧ gSame c ((wayP W H h (x, y) k).1 : Int) ((wayP W H h (x, y) k).2 : Int) i ∧ z0 = i ∧ z1 = 0) ∨ (¬ gAt c n (wayP W H h (x, y) k) ∧ z0 = 0 ∧ z1 = 6)) :
    Calls Try.prog 42 #[.agg (gV W H h (.slice (some ⟨g, 0, none⟩) n n)), .agg #[.int .i8 (x : Int), .int .i8 (y : Int)]] w fun e w' => Below w.heap.size w w' ∧ e = .returned (.tuple #[.int .i64 z0, .int .i64 z1]) := by
  have hW : W ≤ 9 := by have := hv.1.1; omega
  have hH : H ≤ 9 := by have := hv.1.2.1; omega
  have h8 : n ≤ 8 := hv.1.2.2
  have ht := hts_of hW hH hv.2.1
  have HV := Lib.hid hv
  have HH := Lib.hid hh
  have HC := Lib.hid hc
  have HT := Lib.hid ht
  have HK := Lib.hid hk
  have HZ := Lib.hid hz
  have HGV := Lib.hid hv.2.2
  have hin : gIs W H (x : Int) (y : Int) := gIs_of hx hy
  clear hv hh hc ht hk hz
  have X2 := (Bx.new w (gV W H h (.slice (some ⟨g, 0, none⟩) n n)) 33).alloc (.cells #[.int .i8 (x : Int), .int .i8 (y : Int)] 40)
  have X3 := Bx.newAt (w.alloc (.cells (gV W H h (.slice (some ⟨g, 0, none⟩) n n)) 33)) (w.heap.size + 1) #[.int .i8 (x : Int), .int .i8 (y : Int)] 40 (by simp)
  have B := al (al (Below.refl w.heap.size w) (.cells (gV W H h (.slice (some ⟨g, 0, none⟩) n n)) 33)) (.cells #[.int .i8 (x : Int), .int .i8 (y : Int)] 40)
  replace hA := (hA.alloc (.cells (gV W H h (.slice (some ⟨g, 0, none⟩) n n)) 33)).alloc (.cells #[.int .i8 (x : Int), .int .i8 (y : Int)] 40)
  go_enter Try.func42, Try.ntmps42
  go_wp2_with fail
  refine (gis_yes W H x y h _ w.heap.size _ (by omega) (by omega) (by omega) (by omega) X2 hin).mono ?_
  rintro e w1 ⟨rfl, hbl⟩
  replace X2 := X2.below hbl
  replace X3 := X3.below hbl
  replace hA := hA.below hbl
  replace B := nxt B hbl
  clear hbl hin
  go_wp2_with fail
  refine (gasked_any W H h w.heap.size _ n n c true _ (by omega) (by omega) HH.out HC.out (by omega) X2 hA.rd).mono ?_
  rintro e w2 ⟨hbl, ⟨_, _, rfl⟩ | ⟨_, hf, _⟩ | ⟨hn, _⟩⟩
  case inr.inl => cases hf
  case inr.inr => exact absurd HV.out hn
  replace X2 := X2.below hbl
  replace X3 := X3.below hbl
  replace hA := hA.below hbl
  replace B := nxt B hbl
  clear hbl
  have c0 : w2.cell? ⟨w.heap.size + 1, 0, none⟩ = some (.int .i8 (x : Int)) := X3.cell 0
  have c1 : w2.cell? ⟨w.heap.size + 1, 1, none⟩ = some (.int .i8 (y : Int)) := X3.cell 1
  have hs2 := B.size
  go_wp2_with fail
  refine (gdrain_any W H x y h w.heap.size _ n n c _ hW hH hx hy h8 HH.out HT.out X2 hA.rd).mono ?_
  rintro e w3 ⟨hbl, k', hk', ⟨i, hi, hs, rfl⟩ | ⟨hno, rfl⟩⟩
  · obtain rfl := hk'.unique HK.out
    replace B := nxt B hbl
    have hzz : z0 = (i : Int) ∧ z1 = 0 := by
      rcases HZ.out with ⟨j, hj, hsj, r1, r2⟩ | ⟨hn, _⟩
      · rw [gls_one HGV.out hi hj hs hsj]; exact ⟨r1, r2⟩
      · exact absurd ⟨i, hi, hs⟩ hn
    obtain ⟨rfl, rfl⟩ := hzz
    have hi0 : (0 : Int) ≤ (i : Int) := by omega
    clear hbl hk' c0 c1 hs
    go_wp2
    exact bodyPost_ret (results_tmp2 Try.results42 _ _ _) rfl ⟨B, rfl⟩
  · obtain rfl := hk'.unique HK.out
    replace B := nxt B hbl
    have hzz : z0 = 0 ∧ z1 = 6 := by
      rcases HZ.out with ⟨j, hj, hsj, _⟩ | ⟨_, r1, r2⟩
      · exact absurd ⟨j, hj, hsj⟩ hno
      · exact ⟨r1, r2⟩
    obtain ⟨rfl, rfl⟩ := hzz
    clear hbl hk' c0 c1 hno
    go_wp2
    exact bodyPost_ret (results_tmp2 Try.results42 _ _ _) rfl ⟨B, rfl⟩

theorem impl_bad (X Y : Int) (h : Nat → Int) (g n : Nat) (c : Nat → Int) (a b : Int) (w : World) (hX : -128 ≤ X ∧ X ≤ 127) (hY : -128 ≤ Y ∧ Y ≤ 127) (hh : ∀ p, -32768 ≤ h p ∧ h p ≤ 32767) (hc : ∀ j, -128 ≤ c j ∧ c j ≤ 127) (hm : n ≤ 1048576) (ha : -128 ≤ a ∧ a ≤ 127) (hb : -128 ≤ b ∧ b ≤ 127) (hA : Ac w g n c) (z : Int) (hz : (¬ GValid X Y h n c ∧ z = 1) ∨ (GValid X Y h n c ∧ ¬ gIs X Y a b ∧ z = 2)) :
    Calls Try.prog 43 #[.agg (gV X Y h (.slice (some ⟨g, 0, none⟩) n n)), .agg #[.int .i8 a, .int .i8 b]] w fun e w' => Below w.heap.size w w' ∧ e = .returned (.tuple #[.int .i64 0, .int .i64 z]) := by
  have HH := Lib.hid hh
  have HC := Lib.hid hc
  have HZ := Lib.hid hz
  clear hh hc hz
  have X2 := (Bx.new w (gV X Y h (.slice (some ⟨g, 0, none⟩) n n)) 33).alloc (.cells #[.int .i8 a, .int .i8 b] 40)
  have B := al (al (Below.refl w.heap.size w) (.cells (gV X Y h (.slice (some ⟨g, 0, none⟩) n n)) 33)) (.cells #[.int .i8 a, .int .i8 b] 40)
  replace hA := (hA.alloc (.cells (gV X Y h (.slice (some ⟨g, 0, none⟩) n n)) 33)).alloc (.cells #[.int .i8 a, .int .i8 b] 40)
  go_enter Try.func43, Try.ntmps43
  go_wp2_with (refine wpList_load_box X2 rfl _ _ rfl rfl _ Try.underlying33 rfl (infoGv _ _ _ _) ?_)
  refine (landAt_any X Y h g n c a b _ hX hY HH.out HC.out hm ha hb hA).mono ?_
  rintro e w1 ⟨hbl, ⟨hv, hin, p, m, rfl, hpm, hmp, hL⟩ | ⟨hv, hin, rfl⟩ | ⟨hv, rfl⟩⟩
  · rcases HZ.out with k | k
    · exact absurd hv k.1
    · exact absurd hin k.2.1
  · replace B := nxt B hbl
    obtain rfl : z = 2 := by rcases HZ.out with k | k; exact absurd hv k.1; exact k.2.2
    clear hbl hv hin
    go_wp2
    exact bodyPost_ret (results_tmp2 Try.results43 _ _ _) rfl ⟨B, rfl⟩
  · replace B := nxt B hbl
    obtain rfl : z = 1 := by rcases HZ.out with k | k; exact k.2; exact absurd k.1 hv
    clear hbl hv
    go_wp2
    exact bodyPost_ret (results_tmp2 Try.results43 _ _ _) rfl ⟨B, rfl⟩

theorem impl_in (W H : Nat) (h : Nat → Int) (g n : Nat) (c : Nat → Int) (x y k : Nat) (w : World) (hh : ∀ p, -32768 ≤ h p ∧ h p ≤ 32767) (hc : ∀ j, -128 ≤ c j ∧ c j ≤ 127) (hA : Ac w g n c) (hv : GValid W H h n c) (hx : x < W) (hy : y < H) (hk : Ends W H h n c (x, y) k) (z0 z1 : Int) (hz : (∃ i : Nat, i < n ∧ gSame c ((wayP W H h (x, y) k).1 : Int) ((wayP W H h (x, y) k).2 : Int) i ∧ z0 = i ∧ z1 = 0) ∨ (¬ gAt c n (wayP W H h (x, y) k) ∧ z0 = 0 ∧ z1 = 6)) :
    Calls Try.prog 43 #[.agg (gV W H h (.slice (some ⟨g, 0, none⟩) n n)), .agg #[.int .i8 (x : Int), .int .i8 (y : Int)]] w fun e w' => Below w.heap.size w w' ∧ e = .returned (.tuple #[.int .i64 z0, .int .i64 z1]) := by
  have hW : W ≤ 9 := by have := hv.1.1; omega
  have hH : H ≤ 9 := by have := hv.1.2.1; omega
  have h8 : n ≤ 8 := hv.1.2.2
  have ht := hts_of hW hH hv.2.1
  have hgl := hv.2.2
  have HV := Lib.hid hv
  have HH := Lib.hid hh
  have HC := Lib.hid hc
  have HT := Lib.hid ht
  have HK := Lib.hid hk
  have HZ := Lib.hid hz
  have HGV := Lib.hid hv.2.2
  have HGL := Lib.hid hgl
  have hin : gIs W H (x : Int) (y : Int) := gIs_of hx hy
  have HIN := Lib.hid hin
  clear hv hh hc ht hk hin hgl hz
  have X2 := (Bx.new w (gV W H h (.slice (some ⟨g, 0, none⟩) n n)) 33).alloc (.cells #[.int .i8 (x : Int), .int .i8 (y : Int)] 40)
  have X3 := Bx.newAt (w.alloc (.cells (gV W H h (.slice (some ⟨g, 0, none⟩) n n)) 33)) (w.heap.size + 1) #[.int .i8 (x : Int), .int .i8 (y : Int)] 40 (by simp)
  have B := al (al (Below.refl w.heap.size w) (.cells (gV W H h (.slice (some ⟨g, 0, none⟩) n n)) 33)) (.cells #[.int .i8 (x : Int), .int .i8 (y : Int)] 40)
  replace hA := (hA.alloc (.cells (gV W H h (.slice (some ⟨g, 0, none⟩) n n)) 33)).alloc (.cells #[.int .i8 (x : Int), .int .i8 (y : Int)] 40)
  go_enter Try.func43, Try.ntmps43
  go_wp2_with (refine wpList_load_box X2 rfl _ _ rfl rfl _ Try.underlying33 rfl (infoGv _ _ _ _) ?_)
  refine (landAt_any W H h g n c x y _ (by omega) (by omega) HH.out HC.out (by omega) (by omega) (by omega) hA).mono ?_
  rintro e w1 ⟨hbl, ⟨_, _, p, m, rfl, hpm, hmp, hL⟩ | ⟨_, hn, _⟩ | ⟨hn, _⟩⟩
  case inr.inl => exact absurd HIN.out hn
  case inr.inr => exact absurd HV.out hn
  replace X3 := X3.below hbl
  replace B := nxt B hbl
  clear hbl
  have c0 : w1.cell? ⟨w.heap.size + 1, 0, none⟩ = some (.int .i8 (x : Int)) := X3.cell 0
  have c1 : w1.cell? ⟨w.heap.size + 1, 1, none⟩ = some (.int .i8 (y : Int)) := X3.cell 1
  have hs2 := B.size
  go_wp2_with fail
  refine (irun_any W H x y p m n h c _ hW hH hx hy HH.out HT.out HC.out HGL.out hL).mono ?_
  rintro e w3 ⟨hbl, k', v, s, rfl, hk', O, hs⟩
  obtain rfl := hk'.unique HK.out
  replace B := nxt B hbl
  clear hbl hk' c0 c1
  rcases hs with ⟨i, hi, hsi, rfl⟩ | ⟨hno, rfl⟩
  · have hzz : z0 = (i : Int) ∧ z1 = 0 := by
      rcases HZ.out with ⟨j, hj, hsj, r1, r2⟩ | ⟨hn, _⟩
      · rw [gls_one HGV.out hi hj hsi hsj]; exact ⟨r1, r2⟩
      · exact absurd ⟨i, hi, hsi⟩ hn
    obtain ⟨rfl, rfl⟩ := hzz
    clear hsi
    generalize htP h (wayP W H h (x, y) k') = hp
    go_wp2_with (refine wpList_assert rfl _ _ _ _ rfl _ _ rfl (gully_yes _ _) ?_)
    exact bodyPost_ret (results_tmp2 Try.results43 _ _ _) rfl ⟨al B _, rfl⟩
  · have hzz : z0 = 0 ∧ z1 = 6 := by
      rcases HZ.out with ⟨j, hj, hsj, _⟩ | ⟨_, r1, r2⟩
      · exact absurd ⟨j, hj, hsj⟩ hno
      · exact ⟨r1, r2⟩
    obtain ⟨rfl, rfl⟩ := hzz
    clear hno
    generalize pointA W H h (wayP W H h (x, y) k') = pt
    go_wp2_with (refine wpList_assert rfl _ _ _ _ rfl _ _ rfl (gully_no _ _) ?_)
    exact bodyPost_ret (results_tmp2 Try.results43 _ _ _) rfl ⟨al B _, rfl⟩

theorem both (X Y : Int) (h : Nat → Int) (n : Nat) (c : Nat → Int) (a b : Int) (hX : -128 ≤ X ∧ X ≤ 127) (hY : -128 ≤ Y ∧ Y ≤ 127) (hh : ∀ p, -32768 ≤ h p ∧ h p ≤ 32767) (hc : ∀ j, -128 ≤ c j ∧ c j ≤ 127) (hm : n ≤ 1048576) (ha : -128 ≤ a ∧ a ≤ 127) (hb : -128 ≤ b ∧ b ≤ 127) :
    ∃ (z0 z1 : Int), (∀ (W : World) (g : Nat), Ac W g n c → Calls Try.prog 42 #[.agg (gV X Y h (.slice (some ⟨g, 0, none⟩) n n)), .agg #[.int .i8 a, .int .i8 b]] W fun e w' => Below W.heap.size W w' ∧ e = .returned (.tuple #[.int .i64 z0, .int .i64 z1])) ∧
      (∀ (W : World) (g : Nat), Ac W g n c → Calls Try.prog 43 #[.agg (gV X Y h (.slice (some ⟨g, 0, none⟩) n n)), .agg #[.int .i8 a, .int .i8 b]] W fun e w' => Below W.heap.size W w' ∧ e = .returned (.tuple #[.int .i64 z0, .int .i64 z1])) := by
  by_cases hv : GValid X Y h n c
  · by_cases hin : gIs X Y a b
    · obtain ⟨W', rfl⟩ := Int.eq_ofNat_of_zero_le (show 0 ≤ X by have := hv.1.1; omega)
      obtain ⟨H', rfl⟩ := Int.eq_ofNat_of_zero_le (show 0 ≤ Y by have := hv.1.2.1; omega)
      obtain ⟨x, y, rfl, rfl, hx, hy⟩ := gIs_nat hin
      have ht := hts_of (by have := hv.1.1; omega) (by have := hv.1.2.1; omega) hv.2.1
      obtain ⟨k, hk⟩ := ends_ex n c (p := (x, y)) ⟨hx, hy⟩ ht
      by_cases hg : gAt c n (wayP W' H' h (x, y) k)
      · obtain ⟨i, hi, hs⟩ := hg
        exact ⟨i, 0, fun W g A => spec_in W' H' h g n c x y k W hh hc A hv hx hy hk _ _ (.inl ⟨i, hi, hs, rfl, rfl⟩), fun W g A => impl_in W' H' h g n c x y k W hh hc A hv hx hy hk _ _ (.inl ⟨i, hi, hs, rfl, rfl⟩)⟩
      · exact ⟨0, 6, fun W g A => spec_in W' H' h g n c x y k W hh hc A hv hx hy hk _ _ (.inr ⟨hg, rfl, rfl⟩), fun W g A => impl_in W' H' h g n c x y k W hh hc A hv hx hy hk _ _ (.inr ⟨hg, rfl, rfl⟩)⟩
    · exact ⟨0, 2, fun W g A => spec_bad X Y h g n c a b W hX hY hh hc hm ha hb A 2 (.inr ⟨hv, hin, rfl⟩), fun W g A => impl_bad X Y h g n c a b W hX hY hh hc hm ha hb A 2 (.inr ⟨hv, hin, rfl⟩)⟩
  · exact ⟨0, 1, fun W g A => spec_bad X Y h g n c a b W hX hY hh hc hm ha hb A 1 (.inl ⟨hv, rfl⟩), fun W g A => impl_bad X Y h g n c a b W hX hY hh hc hm ha hb A 1 (.inl ⟨hv, rfl⟩)⟩
end drainsTo
end Go.Proofs.Ytegnhpanlbfmdaa
