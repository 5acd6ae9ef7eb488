/-
  Both sides of KeepsFall answer the same. Conditions stand at each.
-/
import Derived.Test.YtegnhpanlbfmdaaRows
import Derived.Test.YtegnhpanlbfmdaaShortS
import Derived.Test.YtegnhpanlbfmdaaShortI
import Derived.Test.YtegnhpanlbfmdaaRunI
import Derived.Deep.Cut
namespace Go.Proofs.Ytegnhpanlbfmdaa
open Go Go.ChangeShapes Go.WideShapes Go.ChangeAt Go.RowKit
set_option linter.unusedVariables false
set_option linter.unusedSimpArgs false
set_option maxRecDepth 100000
set_option maxHeartbeats 4000000

namespace keepsFall
theorem spec_bad (X Y : Int) (h : Nat → Int) (g n : Nat) (c : Nat → Int) (fall : Int) (w : World) (hX : -128 ≤ X ∧ X ≤ 127) (hY : -128 ≤ Y ∧ Y ≤ 127) (hh : ∀ p, -32768 ≤ h p ∧ h p ≤ 32767) (hc : ∀ j, -128 ≤ c j ∧ c j ≤ 127) (hm : n ≤ 1048576) (hA : Ac w g n c) (z : Int) (hz : (¬ GValid X Y h n c ∧ z = 1) ∨ (GValid X Y h n c ∧ ¬ (1 ≤ fall ∧ fall ≤ 200) ∧ z = 2)) :
    Calls Try.prog 66 #[.agg (gV X Y h (.slice (some ⟨g, 0, none⟩) n n)), .int .i64 fall] w fun e w' => Below w.heap.size w w' ∧ e = .returned (.tuple #[.bool false, .int .i64 z]) := by
  have HH := Lib.hid hh
  have HC := Lib.hid hc
  have HZ := Lib.hid hz
  clear hh hc hz
  have X2 := Bx.new w (gV X Y h (.slice (some ⟨g, 0, none⟩) n n)) 33
  have B := al (Below.refl w.heap.size w) (.cells (gV X Y h (.slice (some ⟨g, 0, none⟩) n n)) 33)
  replace hA := hA.alloc (.cells (gV X Y h (.slice (some ⟨g, 0, none⟩) n n)) 33)
  go_enter Try.func66, Try.ntmps66
  go_upto_region 1 with fail
  obtain ⟨W0, hW0⟩ : ∃ W0 : World, W0 = w.alloc (.cells (gV X Y h (.slice (some ⟨g, 0, none⟩) n n)) 33) := ⟨_, rfl⟩
  rw [← hW0] at X2 B hA ⊢
  clear hW0
  go_wp2_with fail
  by_cases hf : 1 ≤ fall ∧ fall ≤ 200
  · refine (inn_yes fall 1 200 _ hf.1 hf.2).mono ?_
    rintro e w1 ⟨rfl, rfl⟩
    have HF := Lib.hid hf
    clear hf
    go_wp2_with fail
    refine (gasked_any X Y h w.heap.size _ n n c true _ hX hY HH.out HC.out hm X2 hA.rd).mono ?_
    rintro e w2 ⟨hbl, ⟨hv, _, rfl⟩ | ⟨hv, hf, _⟩ | ⟨hv, rfl⟩⟩
    · rcases HZ.out with k | k
      · exact absurd hv k.1
      · exact absurd HF.out k.2.1
    · cases hf
    · obtain rfl : z = 1 := by rcases HZ.out with k | k; exact k.2; exact absurd k.1 hv
      replace B := nxt B hbl
      clear hbl
      clear hv X2 hA HZ

      go_wp2
      exact bodyPost_ret (results_tmp2 Try.results66 _ _ _) rfl ⟨B, rfl⟩
  · refine (inn_no fall 1 200 _ hf).mono ?_
    rintro e w1 ⟨rfl, rfl⟩
    have HF := Lib.hid hf
    clear hf
    go_wp2_with fail
    refine (gasked_any X Y h w.heap.size _ n n c false _ hX hY HH.out HC.out hm X2 hA.rd).mono ?_
    rintro e w2 ⟨hbl, ⟨hv, hf, _⟩ | ⟨hv, _, rfl⟩ | ⟨hv, rfl⟩⟩
    · cases hf
    · obtain rfl : z = 2 := by rcases HZ.out with k | k; exact absurd hv k.1; exact k.2.2
      replace B := nxt B hbl
      clear hbl
      clear hv X2 hA HZ

      go_wp2
      exact bodyPost_ret (results_tmp2 Try.results66 _ _ _) rfl ⟨B, rfl⟩
    · obtain rfl : z = 1 := by rcases HZ.out with k | k; exact k.2; exact absurd k.1 hv
      replace B := nxt B hbl
      clear hbl
      clear hv X2 hA HZ

      go_wp2
      exact bodyPost_ret (results_tmp2 Try.results66 _ _ _) rfl ⟨B, rfl⟩

theorem spec_in (W H : Nat) (h : Nat → Int) (g n : Nat) (c : Nat → Int) (fall : Int) (w : World) (hh : ∀ p, -32768 ≤ h p ∧ h p ≤ 32767) (hc : ∀ j, -128 ≤ c j ∧ c j ≤ 127) (hA : Ac w g n c) (hv : GValid W H h n c) (hf : 1 ≤ fall ∧ fall ≤ 200) (z0 : Bool) (z1 : Int) (hz : (∃ i, i < W * H ∧ ShortAt W H h n c fall (cl W i) ∧ (∀ j, j < i → ¬ ShortAt W H h n c fall (cl W j)) ∧ z0 = false ∧ z1 = 0) ∨ ((∀ j, j < W * H → ¬ ShortAt W H h n c fall (cl W j)) ∧ z0 = true ∧ z1 = 0)) :
    Calls Try.prog 66 #[.agg (gV W H h (.slice (some ⟨g, 0, none⟩) n n)), .int .i64 fall] w fun e w' => Below w.heap.size w w' ∧ e = .returned (.tuple #[.bool z0, .int .i64 z1]) := by
  have hW : W ≤ 9 := by have := hv.1.1; omega
  have hW0 : 1 ≤ W := by have := hv.1.1; omega
  have hH : H ≤ 9 := by have := hv.1.2.1; omega
  have h8 : n ≤ 8 := hv.1.2.2
  have HV := Lib.hid hv
  have HH := Lib.hid hh
  have HC := Lib.hid hc
  have HZ := Lib.hid hz
  have HF := Lib.hid hf
  clear hv hh hc hz hf
  have X2 := Bx.new w (gV W H h (.slice (some ⟨g, 0, none⟩) n n)) 33
  have B := al (Below.refl w.heap.size w) (.cells (gV W H h (.slice (some ⟨g, 0, none⟩) n n)) 33)
  replace hA := hA.alloc (.cells (gV W H h (.slice (some ⟨g, 0, none⟩) n n)) 33)
  go_enter Try.func66, Try.ntmps66
  go_upto_region 1 with fail
  obtain ⟨W0, hW0⟩ : ∃ W0 : World, W0 = w.alloc (.cells (gV W H h (.slice (some ⟨g, 0, none⟩) n n)) 33) := ⟨_, rfl⟩
  rw [← hW0] at X2 B hA ⊢
  clear hW0
  go_wp2_with fail
  refine (inn_yes fall 1 200 _ HF.out.1 HF.out.2).mono ?_
  rintro e w1 ⟨rfl, rfl⟩
  go_wp2_with fail
  refine (gasked_any W H h w.heap.size _ n n c true _ (by omega) (by omega) HH.out HC.out (by omega) X2 hA.rd).mono ?_
  rintro e w2 ⟨hb, ⟨_, _, rfl⟩ | ⟨_, hf, _⟩ | ⟨hn, _⟩⟩
  case inr.inl => cases hf
  case inr.inr => exact absurd HV.out hn
  replace X2 := X2.below hb
  replace hA := hA.below hb
  replace B := nxt B hb
  clear hb
  go_wp2_with fail
  refine (gshort_any W H h w.heap.size _ n n c fall _ hW0 hW hH h8 HH.out HF.out.1 X2 hA.rd).mono ?_
  clear X2 hA
  rintro e w3 ⟨hb, ⟨i, hi, hs, hno, rfl⟩ | ⟨hno, rfl⟩⟩
  · have hzz : z0 = false ∧ z1 = 0 := by
      rcases HZ.out with ⟨i', hi', hs', hn', hq⟩ | ⟨hn', _⟩
      · rcases Nat.lt_trichotomy i i' with k | k | k
        · exact absurd hs (hn' i k)
        · subst k; exact hq
        · exact absurd hs' (hno i' k)
      · exact absurd hs (hn' i hi)
    obtain ⟨rfl, rfl⟩ := hzz
    replace B := nxt B hb
    clear hb
    clear hno hs HZ
    obtain ⟨⟨cx, cy⟩, hcc⟩ : ∃ q, cl W i = q := ⟨_, rfl⟩
    have HCC := Lib.hid hcc
    rw [hcc]
    clear hcc
    dsimp only [cellA]
    go_wp2
    exact bodyPost_ret (results_tmp2 Try.results66 _ _ _) rfl ⟨(al B _), rfl⟩
  · have hzz : z0 = true ∧ z1 = 0 := by
      rcases HZ.out with ⟨i', hi', hs', _, _⟩ | ⟨_, hq⟩
      · exact absurd hs' (hno i' hi')
      · exact hq
    obtain ⟨rfl, rfl⟩ := hzz
    replace B := nxt B hb
    clear hb
    clear hno HZ
    go_wp2
    exact bodyPost_ret (results_tmp2 Try.results66 _ _ _) rfl ⟨(al B _), rfl⟩

theorem impl_bad (X Y : Int) (h : Nat → Int) (g n : Nat) (c : Nat → Int) (fall : Int) (w : World) (hX : -128 ≤ X ∧ X ≤ 127) (hY : -128 ≤ Y ∧ Y ≤ 127) (hh : ∀ p, -32768 ≤ h p ∧ h p ≤ 32767) (hc : ∀ j, -128 ≤ c j ∧ c j ≤ 127) (hm : n ≤ 1048576) (hA : Ac w g n c) (z : Int) (hz : (¬ GValid X Y h n c ∧ z = 1) ∨ (GValid X Y h n c ∧ ¬ (1 ≤ fall ∧ fall ≤ 200) ∧ z = 2)) :
    Calls Try.prog 67 #[.agg (gV X Y h (.slice (some ⟨g, 0, none⟩) n n)), .int .i64 fall] w fun e w' => Below w.heap.size w w' ∧ e = .returned (.tuple #[.bool false, .int .i64 z]) := by
  have HH := Lib.hid hh
  have HC := Lib.hid hc
  have HZ := Lib.hid hz
  clear hh hc hz
  have X2 := Bx.new w (gV X Y h (.slice (some ⟨g, 0, none⟩) n n)) 33
  have B := al (Below.refl w.heap.size w) (.cells (gV X Y h (.slice (some ⟨g, 0, none⟩) n n)) 33)
  replace hA := hA.alloc (.cells (gV X Y h (.slice (some ⟨g, 0, none⟩) n n)) 33)
  go_enter Try.func67, Try.ntmps67
  go_upto_region 1 with fail
  obtain ⟨W0, hW0⟩ : ∃ W0 : World, W0 = w.alloc (.cells (gV X Y h (.slice (some ⟨g, 0, none⟩) n n)) 33) := ⟨_, rfl⟩
  rw [← hW0] at X2 B hA ⊢
  clear hW0
  go_wp2_with (refine wpList_load_box X2 rfl _ _ rfl rfl _ Try.underlying33 rfl (infoGv _ _ _ _) ?_)
  refine (short_bad X Y h g n c fall _ hX hY HH.out HC.out hm hA z HZ.out).mono ?_
  clear X2 hA
  rintro e w1 ⟨hb, rfl⟩
  have hz0 : z ≠ 0 := by rcases HZ.out with k | k; have := k.2; omega; have := k.2.2; omega
  have hz1 : (z == 0) = false := by simpa using hz0
  replace B := nxt B hb
  clear hb
  clear HZ
  go_wp2
  exact bodyPost_ret (results_tmp2 Try.results67 _ _ _) rfl ⟨(al B _), rfl⟩

theorem impl_in (W H : Nat) (h : Nat → Int) (g n : Nat) (c : Nat → Int) (fall : Int) (w : World) (hh : ∀ p, -32768 ≤ h p ∧ h p ≤ 32767) (hc : ∀ j, -128 ≤ c j ∧ c j ≤ 127) (hA : Ac w g n c) (hv : GValid W H h n c) (hf : 1 ≤ fall ∧ fall ≤ 200) (z0 : Bool) (z1 : Int) (hz : (∃ i, i < W * H ∧ ShortAt W H h n c fall (cl W i) ∧ (∀ j, j < i → ¬ ShortAt W H h n c fall (cl W j)) ∧ z0 = false ∧ z1 = 0) ∨ ((∀ j, j < W * H → ¬ ShortAt W H h n c fall (cl W j)) ∧ z0 = true ∧ z1 = 0)) :
    Calls Try.prog 67 #[.agg (gV W H h (.slice (some ⟨g, 0, none⟩) n n)), .int .i64 fall] w fun e w' => Below w.heap.size w w' ∧ e = .returned (.tuple #[.bool z0, .int .i64 z1]) := by
  have HV := Lib.hid hv
  have HH := Lib.hid hh
  have HC := Lib.hid hc
  have HZ := Lib.hid hz
  have HF := Lib.hid hf
  clear hv hh hc hz hf
  have X2 := Bx.new w (gV W H h (.slice (some ⟨g, 0, none⟩) n n)) 33
  have B := al (Below.refl w.heap.size w) (.cells (gV W H h (.slice (some ⟨g, 0, none⟩) n n)) 33)
  replace hA := hA.alloc (.cells (gV W H h (.slice (some ⟨g, 0, none⟩) n n)) 33)
  go_enter Try.func67, Try.ntmps67
  go_upto_region 1 with fail
  obtain ⟨W0, hW0⟩ : ∃ W0 : World, W0 = w.alloc (.cells (gV W H h (.slice (some ⟨g, 0, none⟩) n n)) 33) := ⟨_, rfl⟩
  rw [← hW0] at X2 B hA ⊢
  clear hW0
  go_wp2_with (refine wpList_load_box X2 rfl _ _ rfl rfl _ Try.underlying33 rfl (infoGv _ _ _ _) ?_)
  refine (callsIn_wide.1 (short_in W H h g n c fall _ HH.out HC.out hA HV.out HF.out)).mono ?_
  clear X2 hA
  rintro e w3 ⟨hb, ⟨i, hi, hs, hno, rfl⟩ | ⟨hno, rfl⟩⟩
  · have hzz : z0 = false ∧ z1 = 0 := by
      rcases HZ.out with ⟨i', hi', hs', hn', hq⟩ | ⟨hn', _⟩
      · rcases Nat.lt_trichotomy i i' with k | k | k
        · exact absurd hs (hn' i k)
        · subst k; exact hq
        · exact absurd hs' (hno i' k)
      · exact absurd hs (hn' i hi)
    obtain ⟨rfl, rfl⟩ := hzz
    replace B := nxt B hb
    clear hb
    clear hno hs HZ
    obtain ⟨⟨cx, cy⟩, hcc⟩ : ∃ q, cl W i = q := ⟨_, rfl⟩
    have HCC := Lib.hid hcc
    rw [hcc]
    clear hcc
    dsimp only [cellA]
    go_wp2
    exact bodyPost_ret (results_tmp2 Try.results67 _ _ _) rfl ⟨(al B _), rfl⟩
  · have hzz : z0 = true ∧ z1 = 0 := by
      rcases HZ.out with ⟨i', hi', hs', _, _⟩ | ⟨_, hq⟩
      · exact absurd hs' (hno i' hi')
      · exact hq
    obtain ⟨rfl, rfl⟩ := hzz
    replace B := nxt B hb
    clear hb
    clear hno HZ
    go_wp2
    exact bodyPost_ret (results_tmp2 Try.results67 _ _ _) rfl ⟨(al B _), rfl⟩

theorem both (X Y : Int) (h : Nat → Int) (n : Nat) (c : Nat → Int) (fall : Int) (hX : -128 ≤ X ∧ X ≤ 127) (hY : -128 ≤ Y ∧ Y ≤ 127) (hh : ∀ p, -32768 ≤ h p ∧ h p ≤ 32767) (hc : ∀ j, -128 ≤ c j ∧ c j ≤ 127) (hm : n ≤ 1048576) (hk : (Lit.int .i64 fall).wf = true) :
    ∃ (z0 : Bool) (z1 : Int), (∀ (W : World) (g : Nat), Ac W g n c → Calls Try.prog 66 #[.agg (gV X Y h (.slice (some ⟨g, 0, none⟩) n n)), .int .i64 fall] W fun e w' => Below W.heap.size W w' ∧ e = .returned (.tuple #[.bool z0, .int .i64 z1])) ∧
      (∀ (W : World) (g : Nat), Ac W g n c → Calls Try.prog 67 #[.agg (gV X Y h (.slice (some ⟨g, 0, none⟩) n n)), .int .i64 fall] W fun e w' => Below W.heap.size W w' ∧ e = .returned (.tuple #[.bool z0, .int .i64 z1])) := by
  by_cases hv : GValid X Y h n c
  · by_cases hf : 1 ≤ fall ∧ fall ≤ 200
    · obtain ⟨W', rfl⟩ := Int.eq_ofNat_of_zero_le (show 0 ≤ X by have := hv.1.1; omega)
      obtain ⟨H', rfl⟩ := Int.eq_ofNat_of_zero_le (show 0 ≤ Y by have := hv.1.2.1; omega)
      by_cases hg : ∃ i, i < W' * H' ∧ ShortAt W' H' h n c fall (cl W' i)
      · obtain ⟨k, hk⟩ := hg
        obtain ⟨i, ⟨hi, hs⟩, hno⟩ := least_of (P := fun i => i < W' * H' ∧ ShortAt W' H' h n c fall (cl W' i)) k hk
        have hno' : ∀ j, j < i → ¬ ShortAt W' H' h n c fall (cl W' j) := fun j hj hsj => hno j hj ⟨by omega, hsj⟩
        exact ⟨false, 0, fun W g A => spec_in W' H' h g n c fall W hh hc A hv hf _ _ (.inl ⟨i, hi, hs, hno', rfl, rfl⟩), fun W g A => impl_in W' H' h g n c fall W hh hc A hv hf _ _ (.inl ⟨i, hi, hs, hno', rfl, rfl⟩)⟩
      · have hno : ∀ j, j < W' * H' → ¬ ShortAt W' H' h n c fall (cl W' j) := fun j hj hs => hg ⟨j, hj, hs⟩
        exact ⟨true, 0, fun W g A => spec_in W' H' h g n c fall W hh hc A hv hf _ _ (.inr ⟨hno, rfl, rfl⟩), fun W g A => impl_in W' H' h g n c fall W hh hc A hv hf _ _ (.inr ⟨hno, rfl, rfl⟩)⟩
    · exact ⟨false, 2, fun W g A => spec_bad X Y h g n c fall W hX hY hh hc hm A 2 (.inr ⟨hv, hf, rfl⟩), fun W g A => impl_bad X Y h g n c fall W hX hY hh hc hm A 2 (.inr ⟨hv, hf, rfl⟩)⟩
  · exact ⟨false, 1, fun W g A => spec_bad X Y h g n c fall W hX hY hh hc hm A 1 (.inl ⟨hv, rfl⟩), fun W g A => impl_bad X Y h g n c fall W hX hY hh hc hm A 1 (.inl ⟨hv, rfl⟩)⟩
end keepsFall
end Go.Proofs.Ytegnhpanlbfmdaa
