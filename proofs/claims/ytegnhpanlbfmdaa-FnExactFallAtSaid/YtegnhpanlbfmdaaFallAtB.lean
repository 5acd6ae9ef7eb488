/-
  Both sides of FallAt answer the same. Conditions stand at each.
-/
import Derived.Test.YtegnhpanlbfmdaaRows
import Derived.Test.YtegnhpanlbfmdaaLandAt
import Derived.Test.YtegnhpanlbfmdaaRunI
import Derived.Test.YtegnhpanlbfmdaaFallS
import Derived.Deep.Cut
namespace Go.Proofs.Ytegnhpanlbfmdaa
open Go Go.ChangeShapes Go.WideShapes Go.ChangeAt Go.RowKit
set_option linter.unusedVariables false
set_option linter.unusedSimpArgs false
set_option maxRecDepth 100000
set_option maxHeartbeats 4000000

namespace fallAt
theorem spec_bad (X Y : Int) (h : Nat → Int) (g n : Nat) (c : Nat → Int) (a b : Int) (w : World) (hX : -128 ≤ X ∧ X ≤ 127) (hY : -128 ≤ Y ∧ Y ≤ 127) (hh : ∀ p, -32768 ≤ h p ∧ h p ≤ 32767) (hc : ∀ j, -128 ≤ c j ∧ c j ≤ 127) (hm : n ≤ 1048576) (ha : -128 ≤ a ∧ a ≤ 127) (hb : -128 ≤ b ∧ b ≤ 127) (hA : Ac w g n c) (z : Int) (hz : (¬ GValid X Y h n c ∧ z = 1) ∨ (GValid X Y h n c ∧ ¬ gIs X Y a b ∧ z = 2)) :
    Calls Try.prog 32 #[.agg (gV X Y h (.slice (some ⟨g, 0, none⟩) n n)), .agg #[.int .i8 a, .int .i8 b]] w fun e w' => Below w.heap.size w w' ∧ e = .returned (.tuple #[.agg #[.int .i8 0, .int .i8 0], .int .i64 0, .int .i64 z]) := by
  have HH := Lib.hid hh
  have HC := Lib.hid hc
  have HZ := Lib.hid hz
  clear hh hc hz
  have X2 := ((Bx.new w (gV X Y h (.slice (some ⟨g, 0, none⟩) n n)) 33).alloc (.cells #[.int .i8 a, .int .i8 b] 40)).alloc (.cells #[.int .i8 0, .int .i8 0] 40)
  have X3 := (Bx.newAt (w.alloc (.cells (gV X Y h (.slice (some ⟨g, 0, none⟩) n n)) 33)) (w.heap.size + 1) #[.int .i8 a, .int .i8 b] 40 (by simp)).alloc (.cells #[.int .i8 0, .int .i8 0] 40)
  have X4 := Bx.newAt ((w.alloc (.cells (gV X Y h (.slice (some ⟨g, 0, none⟩) n n)) 33)).alloc (.cells #[.int .i8 a, .int .i8 b] 40)) (w.heap.size + 1 + 1) #[.int .i8 0, .int .i8 0] 40 (by simp)
  have B := al (al (al (Below.refl w.heap.size w) (.cells (gV X Y h (.slice (some ⟨g, 0, none⟩) n n)) 33)) (.cells #[.int .i8 a, .int .i8 b] 40)) (.cells #[.int .i8 0, .int .i8 0] 40)
  replace hA := ((hA.alloc (.cells (gV X Y h (.slice (some ⟨g, 0, none⟩) n n)) 33)).alloc (.cells #[.int .i8 a, .int .i8 b] 40)).alloc (.cells #[.int .i8 0, .int .i8 0] 40)
  go_enter Try.func32, Try.ntmps32
  go_upto_region 1 with fail
  obtain ⟨W0, hW0⟩ : ∃ W0 : World, W0 = ((w.alloc (.cells (gV X Y h (.slice (some ⟨g, 0, none⟩) n n)) 33)).alloc (.cells #[.int .i8 a, .int .i8 b] 40)).alloc (.cells #[.int .i8 0, .int .i8 0] 40) := ⟨_, rfl⟩
  rw [← hW0] at X2 X3 X4 B hA ⊢
  clear hW0
  have d0 : W0.cell? ⟨w.heap.size + 1, 0, none⟩ = some (.int .i8 a) := X3.cell 0
  have d1 : W0.cell? ⟨w.heap.size + 1, 1, none⟩ = some (.int .i8 b) := X3.cell 1
  have hs0 := X4.lt
  go_wp2_with fail
  by_cases hin : gIs X Y a b
  · refine (gis_yes X Y a b h _ w.heap.size _ hX hY ha hb X2 hin).mono ?_
    rintro e w1 ⟨rfl, hbl⟩
    have HIN := Lib.hid hin
    clear d0 d1 hin
    replace X2 := X2.below hbl
    replace X4 := X4.below hbl
    replace hA := hA.below hbl
    replace B := nxt B hbl
    clear hbl
    go_wp2_with fail
    refine (gasked_any X Y h w.heap.size _ n n c true _ hX hY HH.out HC.out hm X2 hA.rd).mono ?_
    rintro e w2 ⟨hbl, ⟨hv, _, rfl⟩ | ⟨hv, hf, _⟩ | ⟨hv, rfl⟩⟩
    · rcases HZ.out with k | k
      · exact absurd hv k.1
      · exact absurd HIN.out k.2.1
    · cases hf
    · obtain rfl : z = 1 := by rcases HZ.out with k | k; exact k.2; exact absurd k.1 hv
      replace X4 := X4.below hbl
      replace B := nxt B hbl
      clear hbl
      clear hv X2 hA HZ
      have f40 := X4.frozen 0
      have f41 := X4.frozen 1
      have s40 := X4.cell 0
      have s41 := X4.cell 1
      simp only [List.getElem?_toArray, List.getElem?_cons_zero, List.getElem?_cons_succ] at s40 s41
      go_wp2
      have Y4 := (X4.set 0 (.int .i8 0)).set 1 (.int .i8 0)
      have q40 := Y4.cell 0
      have q41 := Y4.cell 1
      simp at q40 q41
      exact bodyPost_ret (v := .tuple #[.agg #[.int .i8 0, .int .i8 0], .int .i64 0, .int .i64 1]) (by simp [results, Try.results32, go_sem, q40, q41]) rfl ⟨((B.setCell (p := ⟨w.heap.size + 1 + 1, 0, none⟩) (by simp; omega) (.int .i8 0)).setCell (p := ⟨w.heap.size + 1 + 1, 1, none⟩) (by simp; omega) (.int .i8 0)), rfl⟩
  · refine (gis_no X Y a b h _ w.heap.size _ hX hY ha hb X2 hin).mono ?_
    rintro e w1 ⟨rfl, hbl⟩
    have HIN := Lib.hid hin
    clear d0 d1 hin
    replace X2 := X2.below hbl
    replace X4 := X4.below hbl
    replace hA := hA.below hbl
    replace B := nxt B hbl
    clear hbl
    go_wp2_with fail
    refine (gasked_any X Y h w.heap.size _ n n c false _ hX hY HH.out HC.out hm X2 hA.rd).mono ?_
    rintro e w2 ⟨hbl, ⟨hv, hf, _⟩ | ⟨hv, _, rfl⟩ | ⟨hv, rfl⟩⟩
    · cases hf
    · obtain rfl : z = 2 := by rcases HZ.out with k | k; exact absurd hv k.1; exact k.2.2
      replace X4 := X4.below hbl
      replace B := nxt B hbl
      clear hbl
      clear hv X2 hA HZ
      have f40 := X4.frozen 0
      have f41 := X4.frozen 1
      have s40 := X4.cell 0
      have s41 := X4.cell 1
      simp only [List.getElem?_toArray, List.getElem?_cons_zero, List.getElem?_cons_succ] at s40 s41
      go_wp2
      have Y4 := (X4.set 0 (.int .i8 0)).set 1 (.int .i8 0)
      have q40 := Y4.cell 0
      have q41 := Y4.cell 1
      simp at q40 q41
      exact bodyPost_ret (v := .tuple #[.agg #[.int .i8 0, .int .i8 0], .int .i64 0, .int .i64 2]) (by simp [results, Try.results32, go_sem, q40, q41]) rfl ⟨((B.setCell (p := ⟨w.heap.size + 1 + 1, 0, none⟩) (by simp; omega) (.int .i8 0)).setCell (p := ⟨w.heap.size + 1 + 1, 1, none⟩) (by simp; omega) (.int .i8 0)), rfl⟩
    · obtain rfl : z = 1 := by rcases HZ.out with k | k; exact k.2; exact absurd k.1 hv
      replace X4 := X4.below hbl
      replace B := nxt B hbl
      clear hbl
      clear hv X2 hA HZ
      have f40 := X4.frozen 0
      have f41 := X4.frozen 1
      have s40 := X4.cell 0
      have s41 := X4.cell 1
      simp only [List.getElem?_toArray, List.getElem?_cons_zero, List.getElem?_cons_succ] at s40 s41
      go_wp2
      have Y4 := (X4.set 0 (.int .i8 0)).set 1 (.int .i8 0)
      have q40 := Y4.cell 0
      have q41 := Y4.cell 1
      simp at q40 q41
      exact bodyPost_ret (v := .tuple #[.agg #[.int .i8 0, .int .i8 0], .int .i64 0, .int .i64 1]) (by simp [results, Try.results32, go_sem, q40, q41]) rfl ⟨((B.setCell (p := ⟨w.heap.size + 1 + 1, 0, none⟩) (by simp; omega) (.int .i8 0)).setCell (p := ⟨w.heap.size + 1 + 1, 1, none⟩) (by simp; omega) (.int .i8 0)), rfl⟩

theorem spec_in (W H : Nat) (h : Nat → Int) (g n : Nat) (c : Nat → Int) (x y : Nat) (w : World) (hh : ∀ p, -32768 ≤ h p ∧ h p ≤ 32767) (hc : ∀ j, -128 ≤ c j ∧ c j ≤ 127) (hA : Ac w g n c) (hv : GValid W H h n c) (hx : x < W) (hy : y < H) (p0 q0 z1 z2 : Int) (hz : (Goes W H h n c (x, y) ∧ p0 = ((lowP W H h (x, y)).1 : Int) ∧ q0 = ((lowP W H h (x, y)).2 : Int) ∧ z1 = htP h (x, y) - htP h (lowP W H h (x, y)) ∧ z2 = 0) ∨ (¬ Goes W H h n c (x, y) ∧ p0 = 0 ∧ q0 = 0 ∧ z1 = 0 ∧ z2 = 6)) :
    Calls Try.prog 32 #[.agg (gV W H h (.slice (some ⟨g, 0, none⟩) n n)), .agg #[.int .i8 (x : Int), .int .i8 (y : Int)]] w fun e w' => Below w.heap.size w w' ∧ e = .returned (.tuple #[.agg #[.int .i8 p0, .int .i8 q0], .int .i64 z1, .int .i64 z2]) := by
  have hW : W ≤ 9 := by have := hv.1.1; omega
  have hH : H ≤ 9 := by have := hv.1.2.1; omega
  have h8 : n ≤ 8 := hv.1.2.2
  have hin : gIs W H (x : Int) (y : Int) := gIs_of hx hy
  have HGL := Lib.hid hv.2.2
  have HV := Lib.hid hv
  have HH := Lib.hid hh
  have HC := Lib.hid hc
  have HZ := Lib.hid hz
  have HIN := Lib.hid hin
  have hxi : (x : Int) < 9 := by omega
  have hyi : (y : Int) < 9 := by omega
  clear hv hh hc hz hin
  have X2 := ((Bx.new w (gV W H h (.slice (some ⟨g, 0, none⟩) n n)) 33).alloc (.cells #[.int .i8 (x : Int), .int .i8 (y : Int)] 40)).alloc (.cells #[.int .i8 0, .int .i8 0] 40)
  have X3 := (Bx.newAt (w.alloc (.cells (gV W H h (.slice (some ⟨g, 0, none⟩) n n)) 33)) (w.heap.size + 1) #[.int .i8 (x : Int), .int .i8 (y : Int)] 40 (by simp)).alloc (.cells #[.int .i8 0, .int .i8 0] 40)
  have X4 := Bx.newAt ((w.alloc (.cells (gV W H h (.slice (some ⟨g, 0, none⟩) n n)) 33)).alloc (.cells #[.int .i8 (x : Int), .int .i8 (y : Int)] 40)) (w.heap.size + 1 + 1) #[.int .i8 0, .int .i8 0] 40 (by simp)
  have B := al (al (al (Below.refl w.heap.size w) (.cells (gV W H h (.slice (some ⟨g, 0, none⟩) n n)) 33)) (.cells #[.int .i8 (x : Int), .int .i8 (y : Int)] 40)) (.cells #[.int .i8 0, .int .i8 0] 40)
  replace hA := ((hA.alloc (.cells (gV W H h (.slice (some ⟨g, 0, none⟩) n n)) 33)).alloc (.cells #[.int .i8 (x : Int), .int .i8 (y : Int)] 40)).alloc (.cells #[.int .i8 0, .int .i8 0] 40)
  go_enter Try.func32, Try.ntmps32
  go_upto_region 1 with fail
  obtain ⟨W0, hW0⟩ : ∃ W0 : World, W0 = ((w.alloc (.cells (gV W H h (.slice (some ⟨g, 0, none⟩) n n)) 33)).alloc (.cells #[.int .i8 (x : Int), .int .i8 (y : Int)] 40)).alloc (.cells #[.int .i8 0, .int .i8 0] 40) := ⟨_, rfl⟩
  rw [← hW0] at X2 X3 X4 B hA ⊢
  clear hW0
  have d0 : W0.cell? ⟨w.heap.size + 1, 0, none⟩ = some (.int .i8 (x : Int)) := X3.cell 0
  have d1 : W0.cell? ⟨w.heap.size + 1, 1, none⟩ = some (.int .i8 (y : Int)) := X3.cell 1
  have hs0 := X4.lt
  go_wp2_with fail
  refine (gis_yes W H x y h _ w.heap.size _ (by omega) (by omega) (by omega) (by omega) X2 HIN.out).mono ?_
  rintro e w1 ⟨rfl, hb⟩
  clear d0 d1
  replace X2 := X2.below hb
  replace X3 := X3.below hb
  replace X4 := X4.below hb
  replace hA := hA.below hb
  replace B := nxt B hb
  clear hb
  go_wp2_with fail
  refine (gasked_any W H h w.heap.size _ n n c true _ (by omega) (by omega) HH.out HC.out (by omega) X2 hA.rd).mono ?_
  rintro e w2 ⟨hb, ⟨_, _, rfl⟩ | ⟨_, hf, _⟩ | ⟨hn, _⟩⟩
  case inr.inl => cases hf
  case inr.inr => exact absurd HV.out hn
  replace X2 := X2.below hb
  replace X3 := X3.below hb
  replace X4 := X4.below hb
  replace hA := hA.below hb
  replace B := nxt B hb
  clear hb
  have d0 : w2.cell? ⟨w.heap.size + 1, 0, none⟩ = some (.int .i8 (x : Int)) := X3.cell 0
  have d1 : w2.cell? ⟨w.heap.size + 1, 1, none⟩ = some (.int .i8 (y : Int)) := X3.cell 1
  go_wp2_with fail
  refine (gfall_any W H x y h w.heap.size _ n n c _ hW hH hx hy h8 HH.out X2 hA.rd).mono ?_
  clear d0 d1
  rintro e w3 ⟨hb, ⟨px, py⟩, r, rfl, hr1, hr2⟩
  replace X2 := X2.below hb
  replace X3 := X3.below hb
  replace X4 := X4.below hb
  replace hA := hA.below hb
  replace B := nxt B hb
  clear hb
  clear hA
  have hs3 := X4.lt
  have X8 := Bx.new w3 #[.int .i8 (px : Int), .int .i8 (py : Int)] 40
  replace X2 := X2.alloc (.cells #[.int .i8 (px : Int), .int .i8 (py : Int)] 40)
  replace X3 := X3.alloc (.cells #[.int .i8 (px : Int), .int .i8 (py : Int)] 40)
  replace X4 := X4.alloc (.cells #[.int .i8 (px : Int), .int .i8 (py : Int)] 40)
  replace B := al B (.cells #[.int .i8 (px : Int), .int .i8 (py : Int)] 40)
  have W4 : ∃ W4 : World, W4 = w3.alloc (.cells #[.int .i8 (px : Int), .int .i8 (py : Int)] 40) := ⟨_, rfl⟩
  dsimp only [cellA]
  go_upto_region 5 with fail
  obtain ⟨W4, hW4⟩ := W4
  rw [← hW4] at X2 X3 X4 X8 B ⊢
  clear hW4
  cases r
  · have hng : ¬ Goes W H h n c (x, y) := fun k => by have := hr1.2 k; cases this
    obtain ⟨rfl, rfl, rfl, rfl⟩ : p0 = 0 ∧ q0 = 0 ∧ z1 = 0 ∧ z2 = 6 := by rcases HZ.out with k | k; exact absurd k.1 hng; exact k.2
    clear hng hr1 hr2 HZ
    have f40 := X4.frozen 0
    have f41 := X4.frozen 1
    have s40 := X4.cell 0
    have s41 := X4.cell 1
    simp only [List.getElem?_toArray, List.getElem?_cons_zero, List.getElem?_cons_succ] at s40 s41
    go_wp2
    have Y4 := (X4.set 0 (.int .i8 0)).set 1 (.int .i8 0)
    have q40 := Y4.cell 0
    have q41 := Y4.cell 1
    simp at q40 q41
    exact bodyPost_ret (v := .tuple #[.agg #[.int .i8 0, .int .i8 0], .int .i64 0, .int .i64 6]) (by simp [results, Try.results32, go_sem, q40, q41]) rfl ⟨((B.setCell (p := ⟨w.heap.size + 1 + 1, 0, none⟩) (by simp; omega) (.int .i8 0)).setCell (p := ⟨w.heap.size + 1 + 1, 1, none⟩) (by simp; omega) (.int .i8 0)), rfl⟩
  · have hgo : Goes W H h n c (x, y) := hr1.1 rfl
    have hq := hr2 rfl
    obtain ⟨hp0, hq0, hz1, rfl⟩ : p0 = ((lowP W H h (x, y)).1 : Int) ∧ q0 = ((lowP W H h (x, y)).2 : Int) ∧ z1 = htP h (x, y) - htP h (lowP W H h (x, y)) ∧ z2 = 0 := by rcases HZ.out with k | k; exact k.2; exact absurd hgo k.1
    have hlo := lowP_in (W := W) (H := H) (h := h) (p := (x, y)) ⟨hx, hy⟩
    rw [← hq] at hp0 hq0 hz1 hlo
    dsimp only [htP] at hp0 hq0 hz1 hlo
    subst hp0 hq0 hz1
    clear hgo hq hr1 hr2 HZ
    have e0 : W4.cell? ⟨w3.heap.size, 0, none⟩ = some (.int .i8 (px : Int)) := X8.cell 0
    have e1 : W4.cell? ⟨w3.heap.size, 1, none⟩ = some (.int .i8 (py : Int)) := X8.cell 1
    have d0 : W4.cell? ⟨w.heap.size + 1, 0, none⟩ = some (.int .i8 (x : Int)) := X3.cell 0
    have d1 : W4.cell? ⟨w.heap.size + 1, 1, none⟩ = some (.int .i8 (y : Int)) := X3.cell 1
    have hz1 := HH.out (y * 9 + x)
    have hz2 := HH.out (py * 9 + px)
    have hxp : (px : Int) < 9 := by omega
    have hyp : (py : Int) < 9 := by omega
    have wz : IntKind.i64.wrap (h (y * 9 + x) - h (py * 9 + px)) = h (y * 9 + x) - h (py * 9 + px) := IntWalk.i64_in _ (by omega)
    go_upto_region 7 with fail
    refine wp_region_held_drew (S := (fun w' : World => w'.cell? ⟨w3.heap.size, 0, none⟩ = some (.int .i8 (px : Int)) ∧ w'.cell? ⟨w3.heap.size, 1, none⟩ = some (.int .i8 (py : Int)) ∧ w'.cell? ⟨w.heap.size + 1, 0, none⟩ = some (.int .i8 (x : Int)) ∧ w'.cell? ⟨w.heap.size + 1, 1, none⟩ = some (.int .i8 (y : Int)))) (by kernel_rfl) ⟨e0, e1, d0, d1⟩ (fun hHeld => ?_)
    refine wpAnyH_take (i := 0) (oi := _) (v := ?_) rfl (by kernel_rfl) (by kernel_rfl) (by kernel_rfl) (fun _ _ _ h => h) (Or.inl ⟨by kernel_rfl, ?_⟩) (by assumption) ?_
    rotate_left
    · intro w hSw; (try dsimp only at hSw); go_simp; first | done | with_reducible rfl
    try simp only [List.getElem_toArray, List.getElem_cons_zero, List.getElem_cons_succ, Act.put, List.setIfInBounds_toArray, List.set_cons_zero, List.set_cons_succ]
    refine wpAnyH_take (i := 1) (oi := _) (v := ?_) rfl (by kernel_rfl) (by kernel_rfl) (by kernel_rfl) (fun _ _ _ h => h) (Or.inl ⟨by kernel_rfl, ?_⟩) (by assumption) ?_
    rotate_left
    · intro w hSw; (try dsimp only at hSw); go_simp; first | done | with_reducible rfl
    try simp only [List.getElem_toArray, List.getElem_cons_zero, List.getElem_cons_succ, Act.put, List.setIfInBounds_toArray, List.set_cons_zero, List.set_cons_succ]
    refine wpAnyH_take (i := 3) (oi := _) (v := ?_) rfl (by kernel_rfl) (by kernel_rfl) (by kernel_rfl) (fun _ _ _ h => h) (Or.inl ⟨by kernel_rfl, ?_⟩) (by assumption) ?_
    rotate_left
    · intro w hSw; (try dsimp only at hSw); go_simp; first | done | with_reducible rfl
    try simp only [List.getElem_toArray, List.getElem_cons_zero, List.getElem_cons_succ, Act.put, List.setIfInBounds_toArray, List.set_cons_zero, List.set_cons_succ]
    refine wpAnyH_ready (rs := [2]) (by kernel_rfl) (by simp) ?_
    refine AllReadyH.cons (o := _) rfl (fun K hK => ?_) AllReadyH.nil
    go_simp
    refine (gheight_any W H h _ w.heap.size x y _ (by omega) (by omega) HH.out X2.drew).mono ?_
    rintro e w5 ⟨rfl, hb⟩
    replace X2 := X2.drew.below hb
    replace X3 := X3.drew.below hb
    replace X4 := X4.drew.below hb
    replace X8 := X8.drew.below hb
    replace B := nxt B.drew hb
    clear hb e0 e1 d0 d1
    have e0 : w5.cell? ⟨w3.heap.size, 0, none⟩ = some (.int .i8 (px : Int)) := X8.cell 0
    have e1 : w5.cell? ⟨w3.heap.size, 1, none⟩ = some (.int .i8 (py : Int)) := X8.cell 1
    have d0 : w5.cell? ⟨w.heap.size + 1, 0, none⟩ = some (.int .i8 (x : Int)) := X3.cell 0
    have d1 : w5.cell? ⟨w.heap.size + 1, 1, none⟩ = some (.int .i8 (y : Int)) := X3.cell 1
    refine hK.out _ _ ⟨e0, e1, d0, d1⟩ (fun hHeld => ?_)
    clear hK K
    try simp only [List.getElem_toArray, List.getElem_cons_zero, List.getElem_cons_succ, Act.put, List.setIfInBounds_toArray, List.set_cons_zero, List.set_cons_succ]
    refine wpAnyH_ready (rs := [4]) (by kernel_rfl) (by simp) ?_
    refine AllReadyH.cons (o := _) rfl (fun K hK => ?_) AllReadyH.nil
    go_simp
    refine (gheight_any W H h _ w.heap.size px py _ (by omega) (by omega) HH.out X2).mono ?_
    rintro e w5 ⟨rfl, hb⟩
    replace X2 := X2.below hb
    replace X3 := X3.below hb
    replace X4 := X4.below hb
    replace X8 := X8.below hb
    replace B := nxt B hb
    clear hb e0 e1 d0 d1
    have e0 : w5.cell? ⟨w3.heap.size, 0, none⟩ = some (.int .i8 (px : Int)) := X8.cell 0
    have e1 : w5.cell? ⟨w3.heap.size, 1, none⟩ = some (.int .i8 (py : Int)) := X8.cell 1
    have d0 : w5.cell? ⟨w.heap.size + 1, 0, none⟩ = some (.int .i8 (x : Int)) := X3.cell 0
    have d1 : w5.cell? ⟨w.heap.size + 1, 1, none⟩ = some (.int .i8 (y : Int)) := X3.cell 1
    refine hK.out _ _ ⟨e0, e1, d0, d1⟩ (fun hHeld => ?_)
    clear hK K
    try simp only [List.getElem_toArray, List.getElem_cons_zero, List.getElem_cons_succ, Act.put, List.setIfInBounds_toArray, List.set_cons_zero, List.set_cons_succ]
    refine wpAnyH_take (i := 5) (oi := _) (v := ?_) rfl (by kernel_rfl) (by kernel_rfl) (by kernel_rfl) (fun _ _ _ h => h) (Or.inl ⟨by kernel_rfl, ?_⟩) (by assumption) ?_
    rotate_left
    · intro w hSw; (try dsimp only at hSw); go_simp; first | done | with_reducible rfl
    try simp only [List.getElem_toArray, List.getElem_cons_zero, List.getElem_cons_succ, Act.put, List.setIfInBounds_toArray, List.set_cons_zero, List.set_cons_succ]
    have s40 : w5.cell? ⟨w.heap.size + 1 + 1, 0, none⟩ = some (.int .i8 0) := X4.cell 0
    have s41 : w5.cell? ⟨w.heap.size + 1 + 1, 1, none⟩ = some (.int .i8 0) := X4.cell 1
    have f40 : w5.frozen? ⟨w.heap.size + 1 + 1, 0, none⟩ = false := X4.frozen 0
    have f41 : w5.frozen? ⟨w.heap.size + 1 + 1, 1, none⟩ = false := X4.frozen 1
    refine wpAnyH_ready (rs := [6]) (by kernel_rfl) (by simp) ?_
    refine AllReadyH.cons (o := _) rfl (fun K hK => ?_) AllReadyH.nil
    go_simp
    have X3q := (X3.other (g := w.heap.size + 1 + 1) (o := 0) (.int .i8 (px : Int)) (by omega)).other (g := w.heap.size + 1 + 1) (o := 1) (.int .i8 (py : Int)) (by omega)
    have X8q := (X8.other (g := w.heap.size + 1 + 1) (o := 0) (.int .i8 (px : Int)) (by omega)).other (g := w.heap.size + 1 + 1) (o := 1) (.int .i8 (py : Int)) (by omega)
    refine hK.out _ _ ⟨X8q.cell 0, X8q.cell 1, X3q.cell 0, X3q.cell 1⟩ (fun hHeld => ?_)
    clear hK K
    try simp only [List.getElem_toArray, List.getElem_cons_zero, List.getElem_cons_succ, Act.put, List.setIfInBounds_toArray, List.set_cons_zero, List.set_cons_succ]
    refine wpAnyH_take (i := 7) (oi := _) (v := ?_) rfl (by kernel_rfl) (by kernel_rfl) (by kernel_rfl) (fun _ _ _ h => h) (Or.inl ⟨by kernel_rfl, ?_⟩) (by assumption) ?_
    rotate_left
    · intro w hSw; (try dsimp only at hSw); go_simp; first | done | with_reducible rfl
    try simp only [List.getElem_toArray, List.getElem_cons_zero, List.getElem_cons_succ, Act.put, List.setIfInBounds_toArray, List.set_cons_zero, List.set_cons_succ]
    refine wpAnyH_take (i := 8) (oi := _) (v := ?_) rfl (by kernel_rfl) (by kernel_rfl) (by kernel_rfl) (fun _ _ _ h => h) (Or.inl ⟨by kernel_rfl, ?_⟩) (by assumption) ?_
    rotate_left
    · intro w hSw; (try dsimp only at hSw); go_simp; first | done | with_reducible rfl
    try simp only [List.getElem_toArray, List.getElem_cons_zero, List.getElem_cons_succ, Act.put, List.setIfInBounds_toArray, List.set_cons_zero, List.set_cons_succ]
    refine wpAnyH_done (by kernel_rfl) ?_ _
    go_wp2
    have Y4 := (X4.set 0 (.int .i8 (px : Int))).set 1 (.int .i8 (py : Int))
    have q40 := Y4.cell 0
    have q41 := Y4.cell 1
    simp at q40 q41
    exact bodyPost_ret (v := .tuple #[.agg #[.int .i8 (px : Int), .int .i8 (py : Int)], .int .i64 (h (y * 9 + x) - h (py * 9 + px)), .int .i64 0]) (by simp [results, Try.results32, go_sem, q40, q41]) rfl ⟨((B.setCell (p := ⟨w.heap.size + 1 + 1, 0, none⟩) (by simp; omega) (.int .i8 (px : Int))).setCell (p := ⟨w.heap.size + 1 + 1, 1, none⟩) (by simp; omega) (.int .i8 (py : Int))), rfl⟩

theorem impl_bad (X Y : Int) (h : Nat → Int) (g n : Nat) (c : Nat → Int) (a b : Int) (w : World) (hX : -128 ≤ X ∧ X ≤ 127) (hY : -128 ≤ Y ∧ Y ≤ 127) (hh : ∀ p, -32768 ≤ h p ∧ h p ≤ 32767) (hc : ∀ j, -128 ≤ c j ∧ c j ≤ 127) (hm : n ≤ 1048576) (ha : -128 ≤ a ∧ a ≤ 127) (hb : -128 ≤ b ∧ b ≤ 127) (hA : Ac w g n c) (z : Int) (hz : (¬ GValid X Y h n c ∧ z = 1) ∨ (GValid X Y h n c ∧ ¬ gIs X Y a b ∧ z = 2)) :
    Calls Try.prog 34 #[.agg (gV X Y h (.slice (some ⟨g, 0, none⟩) n n)), .agg #[.int .i8 a, .int .i8 b]] w fun e w' => Below w.heap.size w w' ∧ e = .returned (.tuple #[.agg #[.int .i8 0, .int .i8 0], .int .i64 0, .int .i64 z]) := by
  have HH := Lib.hid hh
  have HC := Lib.hid hc
  have HZ := Lib.hid hz
  clear hh hc hz
  have X2 := ((Bx.new w (gV X Y h (.slice (some ⟨g, 0, none⟩) n n)) 33).alloc (.cells #[.int .i8 a, .int .i8 b] 40)).alloc (.cells #[.int .i8 0, .int .i8 0] 40)
  have X3 := (Bx.newAt (w.alloc (.cells (gV X Y h (.slice (some ⟨g, 0, none⟩) n n)) 33)) (w.heap.size + 1) #[.int .i8 a, .int .i8 b] 40 (by simp)).alloc (.cells #[.int .i8 0, .int .i8 0] 40)
  have X4 := Bx.newAt ((w.alloc (.cells (gV X Y h (.slice (some ⟨g, 0, none⟩) n n)) 33)).alloc (.cells #[.int .i8 a, .int .i8 b] 40)) (w.heap.size + 1 + 1) #[.int .i8 0, .int .i8 0] 40 (by simp)
  have B := al (al (al (Below.refl w.heap.size w) (.cells (gV X Y h (.slice (some ⟨g, 0, none⟩) n n)) 33)) (.cells #[.int .i8 a, .int .i8 b] 40)) (.cells #[.int .i8 0, .int .i8 0] 40)
  replace hA := ((hA.alloc (.cells (gV X Y h (.slice (some ⟨g, 0, none⟩) n n)) 33)).alloc (.cells #[.int .i8 a, .int .i8 b] 40)).alloc (.cells #[.int .i8 0, .int .i8 0] 40)
  go_enter Try.func34, Try.ntmps34
  go_upto_region 1 with fail
  obtain ⟨W0, hW0⟩ : ∃ W0 : World, W0 = ((w.alloc (.cells (gV X Y h (.slice (some ⟨g, 0, none⟩) n n)) 33)).alloc (.cells #[.int .i8 a, .int .i8 b] 40)).alloc (.cells #[.int .i8 0, .int .i8 0] 40) := ⟨_, rfl⟩
  rw [← hW0] at X2 X3 X4 B hA ⊢
  clear hW0
  have d0 : W0.cell? ⟨w.heap.size + 1, 0, none⟩ = some (.int .i8 a) := X3.cell 0
  have d1 : W0.cell? ⟨w.heap.size + 1, 1, none⟩ = some (.int .i8 b) := X3.cell 1
  have hs0 := X4.lt
  go_wp2_with (refine wpList_load_box X2 rfl _ _ rfl rfl _ Try.underlying33 rfl (infoGv _ _ _ _) ?_)
  refine (landAt_any X Y h g n c a b _ hX hY HH.out HC.out hm ha hb hA).mono ?_
  clear d0 d1 X2
  rintro e w1 ⟨hbl, ⟨hv, hin, p, m, rfl, hpm, hmp, hL⟩ | ⟨hv, hin, rfl⟩ | ⟨hv, rfl⟩⟩
  · rcases HZ.out with k | k
    · exact absurd hv k.1
    · exact absurd hin k.2.1
  · obtain rfl : z = 2 := by rcases HZ.out with k | k; exact absurd hv k.1; exact k.2.2
    replace X4 := X4.below hbl
    replace B := nxt B hbl
    clear hbl
    clear hv hin X3 hA HZ
    have f40 := X4.frozen 0
    have f41 := X4.frozen 1
    have s40 := X4.cell 0
    have s41 := X4.cell 1
    simp only [List.getElem?_toArray, List.getElem?_cons_zero, List.getElem?_cons_succ] at s40 s41
    go_wp2
    have Y4 := (X4.set 0 (.int .i8 0)).set 1 (.int .i8 0)
    have q40 := Y4.cell 0
    have q41 := Y4.cell 1
    simp at q40 q41
    exact bodyPost_ret (v := .tuple #[.agg #[.int .i8 0, .int .i8 0], .int .i64 0, .int .i64 2]) (by simp [results, Try.results34, go_sem, q40, q41]) rfl ⟨((B.setCell (p := ⟨w.heap.size + 1 + 1, 0, none⟩) (by simp; omega) (.int .i8 0)).setCell (p := ⟨w.heap.size + 1 + 1, 1, none⟩) (by simp; omega) (.int .i8 0)), rfl⟩
  · obtain rfl : z = 1 := by rcases HZ.out with k | k; exact k.2; exact absurd k.1 hv
    replace X4 := X4.below hbl
    replace B := nxt B hbl
    clear hbl
    clear hv X3 hA HZ
    have f40 := X4.frozen 0
    have f41 := X4.frozen 1
    have s40 := X4.cell 0
    have s41 := X4.cell 1
    simp only [List.getElem?_toArray, List.getElem?_cons_zero, List.getElem?_cons_succ] at s40 s41
    go_wp2
    have Y4 := (X4.set 0 (.int .i8 0)).set 1 (.int .i8 0)
    have q40 := Y4.cell 0
    have q41 := Y4.cell 1
    simp at q40 q41
    exact bodyPost_ret (v := .tuple #[.agg #[.int .i8 0, .int .i8 0], .int .i64 0, .int .i64 1]) (by simp [results, Try.results34, go_sem, q40, q41]) rfl ⟨((B.setCell (p := ⟨w.heap.size + 1 + 1, 0, none⟩) (by simp; omega) (.int .i8 0)).setCell (p := ⟨w.heap.size + 1 + 1, 1, none⟩) (by simp; omega) (.int .i8 0)), rfl⟩

theorem gully_fall (a b : Int) (w : World) : Calls Try.prog 261 #[.agg #[.int .i64 a, .int .i64 b]] w fun e w' => Below w.heap.size w w' ∧ e = .returned (.tuple #[.agg #[.int .i8 0, .int .i8 0], .int .i64 0]) := by
  have X2 := Bx.newAt (w.alloc (.cells #[.int .i64 a, .int .i64 b] 141)) (w.heap.size + 1) #[.int .i8 0, .int .i8 0] 40 (by simp)
  have B := al (al (Below.refl w.heap.size w) (.cells #[.int .i64 a, .int .i64 b] 141)) (.cells #[.int .i8 0, .int .i8 0] 40)
  go_enter Try.func261, Try.ntmps261
  go_upto_region 1 with fail
  obtain ⟨W0, hW0⟩ : ∃ W0 : World, W0 = (w.alloc (.cells #[.int .i64 a, .int .i64 b] 141)).alloc (.cells #[.int .i8 0, .int .i8 0] 40) := ⟨_, rfl⟩
  rw [← hW0] at X2 B ⊢
  clear hW0
  have s0 := X2.cell 0
  have s1 := X2.cell 1
  have f0 := X2.frozen 0
  have f1 := X2.frozen 1
  go_wp2
  have Y := (X2.set 0 (.int .i8 0)).set 1 (.int .i8 0)
  have q0 := Y.cell 0
  have q1 := Y.cell 1
  simp at q0 q1
  exact bodyPost_ret (v := .tuple #[.agg #[.int .i8 0, .int .i8 0], .int .i64 0]) (by simp [results, Try.results261, go_sem, q0, q1]) rfl ⟨(B.setCell (p := ⟨w.heap.size + 1, 0, none⟩) (by simp) _).setCell (p := ⟨w.heap.size + 1, 1, none⟩) (by simp) _, rfl⟩
theorem point_fall (ht p q b : Int) (w : World) : Calls Try.prog 263 #[.agg #[.int .i64 ht, .int .i8 p, .int .i8 q, .int .i64 b]] w fun e w' => Below w.heap.size w w' ∧ e = .returned (.tuple #[.agg #[.int .i8 p, .int .i8 q], .int .i64 b]) := by
  have X1 := (Bx.new w #[.int .i64 ht, .int .i8 p, .int .i8 q, .int .i64 b] 209).alloc (.cells #[.int .i8 0, .int .i8 0] 40)
  have X2 := Bx.newAt (w.alloc (.cells #[.int .i64 ht, .int .i8 p, .int .i8 q, .int .i64 b] 209)) (w.heap.size + 1) #[.int .i8 0, .int .i8 0] 40 (by simp)
  have B := al (al (Below.refl w.heap.size w) (.cells #[.int .i64 ht, .int .i8 p, .int .i8 q, .int .i64 b] 209)) (.cells #[.int .i8 0, .int .i8 0] 40)
  go_enter Try.func263, Try.ntmps263
  go_upto_region 1 with fail
  obtain ⟨W0, hW0⟩ : ∃ W0 : World, W0 = (w.alloc (.cells #[.int .i64 ht, .int .i8 p, .int .i8 q, .int .i64 b] 209)).alloc (.cells #[.int .i8 0, .int .i8 0] 40) := ⟨_, rfl⟩
  rw [← hW0] at X1 X2 B ⊢
  clear hW0
  have c1 : W0.cell? ⟨w.heap.size, 1, none⟩ = some (.int .i8 p) := X1.cell 1
  have c2 : W0.cell? ⟨w.heap.size, 2, none⟩ = some (.int .i8 q) := X1.cell 2
  have c3 : W0.cell? ⟨w.heap.size, 3, none⟩ = some (.int .i64 b) := X1.cell 3
  refine wp_region_held_drew (S := (fun w' : World => w'.cell? ⟨w.heap.size, 1, none⟩ = some (.int .i8 p) ∧ w'.cell? ⟨w.heap.size, 2, none⟩ = some (.int .i8 q) ∧ w'.cell? ⟨w.heap.size, 3, none⟩ = some (.int .i64 b))) (by kernel_rfl) ⟨c1, c2, c3⟩ (fun hHeld => ?_)
  refine wpAnyH_take (i := 0) (oi := _) (v := ?_) rfl (by kernel_rfl) (by kernel_rfl) (by kernel_rfl) (fun _ _ _ h => h) (Or.inl ⟨by kernel_rfl, ?_⟩) (by assumption) ?_
  rotate_left
  · intro w hSw; (try dsimp only at hSw); go_simp; first | done | with_reducible rfl
  try simp only [List.getElem_toArray, List.getElem_cons_zero, List.getElem_cons_succ, Act.put, List.setIfInBounds_toArray, List.set_cons_zero, List.set_cons_succ]
  refine wpAnyH_take (i := 1) (oi := _) (v := ?_) rfl (by kernel_rfl) (by kernel_rfl) (by kernel_rfl) (fun _ _ _ h => h) (Or.inl ⟨by kernel_rfl, ?_⟩) (by assumption) ?_
  rotate_left
  · intro w hSw; (try dsimp only at hSw); go_simp; first | done | with_reducible rfl
  try simp only [List.getElem_toArray, List.getElem_cons_zero, List.getElem_cons_succ, Act.put, List.setIfInBounds_toArray, List.set_cons_zero, List.set_cons_succ]
  refine wpAnyH_take (i := 2) (oi := _) (v := ?_) rfl (by kernel_rfl) (by kernel_rfl) (by kernel_rfl) (fun _ _ _ h => h) (Or.inl ⟨by kernel_rfl, ?_⟩) (by assumption) ?_
  rotate_left
  · intro w hSw; (try dsimp only at hSw); go_simp; first | done | with_reducible rfl
  try simp only [List.getElem_toArray, List.getElem_cons_zero, List.getElem_cons_succ, Act.put, List.setIfInBounds_toArray, List.set_cons_zero, List.set_cons_succ]
  refine wpAnyH_take (i := 3) (oi := _) (v := ?_) rfl (by kernel_rfl) (by kernel_rfl) (by kernel_rfl) (fun _ _ _ h => h) (Or.inl ⟨by kernel_rfl, ?_⟩) (by assumption) ?_
  rotate_left
  · intro w hSw; (try dsimp only at hSw); go_simp; first | done | with_reducible rfl
  try simp only [List.getElem_toArray, List.getElem_cons_zero, List.getElem_cons_succ, Act.put, List.setIfInBounds_toArray, List.set_cons_zero, List.set_cons_succ]
  replace X1 := X1.drew
  replace X2 := X2.drew
  replace B := B.drew
  obtain ⟨w1, hw1⟩ : ∃ w1 : World, w1 = W0.drew := ⟨_, rfl⟩
  rw [← hw1] at X1 X2 B hHeld ⊢
  clear hw1
  have s40 : w1.cell? ⟨w.heap.size + 1, 0, none⟩ = some (.int .i8 0) := X2.cell 0
  have s41 : w1.cell? ⟨w.heap.size + 1, 1, none⟩ = some (.int .i8 0) := X2.cell 1
  have f40 : w1.frozen? ⟨w.heap.size + 1, 0, none⟩ = false := X2.frozen 0
  have f41 : w1.frozen? ⟨w.heap.size + 1, 1, none⟩ = false := X2.frozen 1
  refine wpAnyH_ready (rs := [4]) (by kernel_rfl) (by simp) ?_
  refine AllReadyH.cons (o := _) rfl (fun K hK => ?_) AllReadyH.nil
  go_simp
  have X1q := (X1.other (g := w.heap.size + 1) (o := 0) (.int .i8 p) (by omega)).other (g := w.heap.size + 1) (o := 1) (.int .i8 q) (by omega)
  refine hK.out _ _ ⟨X1q.cell 1, X1q.cell 2, X1q.cell 3⟩ (fun hHeld => ?_)
  clear hK K
  try simp only [List.getElem_toArray, List.getElem_cons_zero, List.getElem_cons_succ, Act.put, List.setIfInBounds_toArray, List.set_cons_zero, List.set_cons_succ]
  refine wpAnyH_take (i := 5) (oi := _) (v := ?_) rfl (by kernel_rfl) (by kernel_rfl) (by kernel_rfl) (fun _ _ _ h => h) (Or.inl ⟨by kernel_rfl, ?_⟩) (by assumption) ?_
  rotate_left
  · intro w hSw; (try dsimp only at hSw); go_simp; first | done | with_reducible rfl
  try simp only [List.getElem_toArray, List.getElem_cons_zero, List.getElem_cons_succ, Act.put, List.setIfInBounds_toArray, List.set_cons_zero, List.set_cons_succ]
  refine wpAnyH_done (by kernel_rfl) ?_ _
  go_wp2
  have Y := (X2.set 0 (.int .i8 p)).set 1 (.int .i8 q)
  have q0 := Y.cell 0
  have q1 := Y.cell 1
  simp at q0 q1
  exact bodyPost_ret (v := .tuple #[.agg #[.int .i8 p, .int .i8 q], .int .i64 b]) (by simp [results, Try.results263, go_sem, q0, q1]) rfl ⟨(B.setCell (p := ⟨w.heap.size + 1, 0, none⟩) (by simp) _).setCell (p := ⟨w.heap.size + 1, 1, none⟩) (by simp) _, rfl⟩

theorem impl_in (W H : Nat) (h : Nat → Int) (g n : Nat) (c : Nat → Int) (x y : Nat) (w : World) (hh : ∀ p, -32768 ≤ h p ∧ h p ≤ 32767) (hc : ∀ j, -128 ≤ c j ∧ c j ≤ 127) (hA : Ac w g n c) (hv : GValid W H h n c) (hx : x < W) (hy : y < H) (p0 q0 z1 z2 : Int) (hz : (Goes W H h n c (x, y) ∧ p0 = ((lowP W H h (x, y)).1 : Int) ∧ q0 = ((lowP W H h (x, y)).2 : Int) ∧ z1 = htP h (x, y) - htP h (lowP W H h (x, y)) ∧ z2 = 0) ∨ (¬ Goes W H h n c (x, y) ∧ p0 = 0 ∧ q0 = 0 ∧ z1 = 0 ∧ z2 = 6)) :
    Calls Try.prog 34 #[.agg (gV W H h (.slice (some ⟨g, 0, none⟩) n n)), .agg #[.int .i8 (x : Int), .int .i8 (y : Int)]] w fun e w' => Below w.heap.size w w' ∧ e = .returned (.tuple #[.agg #[.int .i8 p0, .int .i8 q0], .int .i64 z1, .int .i64 z2]) := by
  have hW : W ≤ 9 := by have := hv.1.1; omega
  have hH : H ≤ 9 := by have := hv.1.2.1; omega
  have h8 : n ≤ 8 := hv.1.2.2
  have hin : gIs W H (x : Int) (y : Int) := gIs_of hx hy
  have HGL := Lib.hid hv.2.2
  have HV := Lib.hid hv
  have HH := Lib.hid hh
  have HC := Lib.hid hc
  have HZ := Lib.hid hz
  have HIN := Lib.hid hin
  have hxi : (x : Int) < 9 := by omega
  have hyi : (y : Int) < 9 := by omega
  clear hv hh hc hz hin
  have X2 := ((Bx.new w (gV W H h (.slice (some ⟨g, 0, none⟩) n n)) 33).alloc (.cells #[.int .i8 (x : Int), .int .i8 (y : Int)] 40)).alloc (.cells #[.int .i8 0, .int .i8 0] 40)
  have X3 := (Bx.newAt (w.alloc (.cells (gV W H h (.slice (some ⟨g, 0, none⟩) n n)) 33)) (w.heap.size + 1) #[.int .i8 (x : Int), .int .i8 (y : Int)] 40 (by simp)).alloc (.cells #[.int .i8 0, .int .i8 0] 40)
  have X4 := Bx.newAt ((w.alloc (.cells (gV W H h (.slice (some ⟨g, 0, none⟩) n n)) 33)).alloc (.cells #[.int .i8 (x : Int), .int .i8 (y : Int)] 40)) (w.heap.size + 1 + 1) #[.int .i8 0, .int .i8 0] 40 (by simp)
  have B := al (al (al (Below.refl w.heap.size w) (.cells (gV W H h (.slice (some ⟨g, 0, none⟩) n n)) 33)) (.cells #[.int .i8 (x : Int), .int .i8 (y : Int)] 40)) (.cells #[.int .i8 0, .int .i8 0] 40)
  replace hA := ((hA.alloc (.cells (gV W H h (.slice (some ⟨g, 0, none⟩) n n)) 33)).alloc (.cells #[.int .i8 (x : Int), .int .i8 (y : Int)] 40)).alloc (.cells #[.int .i8 0, .int .i8 0] 40)
  go_enter Try.func34, Try.ntmps34
  go_upto_region 1 with fail
  obtain ⟨W0, hW0⟩ : ∃ W0 : World, W0 = ((w.alloc (.cells (gV W H h (.slice (some ⟨g, 0, none⟩) n n)) 33)).alloc (.cells #[.int .i8 (x : Int), .int .i8 (y : Int)] 40)).alloc (.cells #[.int .i8 0, .int .i8 0] 40) := ⟨_, rfl⟩
  rw [← hW0] at X2 X3 X4 B hA ⊢
  clear hW0
  have d0 : W0.cell? ⟨w.heap.size + 1, 0, none⟩ = some (.int .i8 (x : Int)) := X3.cell 0
  have d1 : W0.cell? ⟨w.heap.size + 1, 1, none⟩ = some (.int .i8 (y : Int)) := X3.cell 1
  have hs0 := X4.lt
  go_wp2_with (refine wpList_load_box X2 rfl _ _ rfl rfl _ Try.underlying33 rfl (infoGv _ _ _ _) ?_)
  refine (landAt_any W H h g n c x y _ (by omega) (by omega) HH.out HC.out (by omega) (by omega) (by omega) hA).mono ?_
  clear d0 d1 X2
  rintro e w1 ⟨hb, ⟨_, _, p, m, rfl, hpm, hmp, hL⟩ | ⟨_, hn, _⟩ | ⟨hn, _⟩⟩
  case inr.inl => exact absurd HIN.out hn
  case inr.inr => exact absurd HV.out hn
  replace X3 := X3.below hb
  replace X4 := X4.below hb
  replace B := nxt B hb
  clear hb
  clear hA
  have d0 : w1.cell? ⟨w.heap.size + 1, 0, none⟩ = some (.int .i8 (x : Int)) := X3.cell 0
  have d1 : w1.cell? ⟨w.heap.size + 1, 1, none⟩ = some (.int .i8 (y : Int)) := X3.cell 1
  have hs1 := X4.lt
  go_wp2_with fail
  refine (site_any W H x y p m n h c _ hW hH hx hy HH.out HC.out HGL.out hL).mono ?_
  rintro e w2 ⟨hb, v, rfl, hs⟩
  clear d0 d1
  replace X4 := X4.below hb
  replace B := nxt B hb
  clear hb
  clear X3
  rcases hs with ⟨i, hi, hsi, rfl⟩ | ⟨hna, rfl⟩
  · have hng : ¬ Goes W H h n c (x, y) := fun k => k.1 ⟨i, hi, hsi⟩
    obtain ⟨rfl, rfl, rfl, rfl⟩ : p0 = 0 ∧ q0 = 0 ∧ z1 = 0 ∧ z2 = 6 := by rcases HZ.out with k | k; exact absurd k.1 hng; exact k.2
    clear hng hsi HZ hL
    go_wp2_with fail
    refine (gully_fall _ _ _).mono ?_
    rintro e w3 ⟨hb, rfl⟩
    replace X4 := X4.below hb
    replace B := nxt B hb
    clear hb
    replace X4 := X4.alloc (.cells #[.int .i8 0, .int .i8 0] 40)
    replace B := al B (.cells #[.int .i8 0, .int .i8 0] 40)
    have W4 : ∃ W4 : World, W4 = w3.alloc (.cells #[.int .i8 0, .int .i8 0] 40) := ⟨_, rfl⟩
    go_upto_region 5 with fail
    obtain ⟨W4, hW4⟩ := W4
    rw [← hW4] at X4 B ⊢
    clear hW4
    have hs4 := X4.lt
    have f40 := X4.frozen 0
    have f41 := X4.frozen 1
    have s40 := X4.cell 0
    have s41 := X4.cell 1
    simp only [List.getElem?_toArray, List.getElem?_cons_zero, List.getElem?_cons_succ] at s40 s41
    go_wp2
    have Y4 := (X4.set 0 (.int .i8 0)).set 1 (.int .i8 0)
    have q40 := Y4.cell 0
    have q41 := Y4.cell 1
    simp at q40 q41
    exact bodyPost_ret (v := .tuple #[.agg #[.int .i8 0, .int .i8 0], .int .i64 0, .int .i64 6]) (by simp [results, Try.results34, go_sem, q40, q41]) rfl ⟨((B.setCell (p := ⟨w.heap.size + 1 + 1, 0, none⟩) (by simp; omega) (.int .i8 0)).setCell (p := ⟨w.heap.size + 1 + 1, 1, none⟩) (by simp; omega) (.int .i8 0)), rfl⟩
  · have hiff : Goes W H h n c (x, y) ↔ ¬ (htP h (x, y) - htP h (lowP W H h (x, y)) = 0) := by
      constructor
      · intro k; have := lowP_lt k.2; omega
      · intro k; exact ⟨hna, fun e => k (by rw [e]; omega)⟩
    have HI := Lib.hid hiff
    unfold pointA
    clear hiff hna hL
    generalize htP h (x, y) - htP h (lowP W H h (x, y)) = by_ at HI HZ ⊢
    generalize htP h (x, y) = ht0
    obtain ⟨⟨px, py⟩, hpq⟩ : ∃ q, lowP W H h (x, y) = q := ⟨_, rfl⟩
    rw [hpq] at HZ ⊢
    clear hpq
    dsimp only at HZ ⊢
    go_wp2_with fail
    refine (point_fall _ _ _ _ _).mono ?_
    rintro e w3 ⟨hb, rfl⟩
    replace X4 := X4.below hb
    replace B := nxt B hb
    clear hb
    have X9 := Bx.new w3 #[.int .i8 (px : Int), .int .i8 (py : Int)] 40
    replace X4 := X4.alloc (.cells #[.int .i8 (px : Int), .int .i8 (py : Int)] 40)
    replace B := al B (.cells #[.int .i8 (px : Int), .int .i8 (py : Int)] 40)
    have W4 : ∃ W4 : World, W4 = w3.alloc (.cells #[.int .i8 (px : Int), .int .i8 (py : Int)] 40) := ⟨_, rfl⟩
    go_upto_region 5 with fail
    obtain ⟨W4, hW4⟩ := W4
    rw [← hW4] at X4 X9 B ⊢
    clear hW4
    have hs4 := X4.lt
    have e0 := X9.cell 0
    have e1 := X9.cell 1
    simp only [List.getElem?_toArray, List.getElem?_cons_zero, List.getElem?_cons_succ] at e0 e1
    have f40 := X4.frozen 0
    have f41 := X4.frozen 1
    have s40 := X4.cell 0
    have s41 := X4.cell 1
    simp only [List.getElem?_toArray, List.getElem?_cons_zero, List.getElem?_cons_succ] at s40 s41
    by_cases hz0 : by_ = 0
    · obtain ⟨rfl, rfl, rfl, rfl⟩ : p0 = 0 ∧ q0 = 0 ∧ z1 = 0 ∧ z2 = 6 := by rcases HZ.out with k | k; exact absurd hz0 (HI.out.1 k.1); exact k.2
      subst hz0
      clear HZ HI
      go_wp2
      have Y4 := (X4.set 0 (.int .i8 0)).set 1 (.int .i8 0)
      have q40 := Y4.cell 0
      have q41 := Y4.cell 1
      simp at q40 q41
      exact bodyPost_ret (v := .tuple #[.agg #[.int .i8 0, .int .i8 0], .int .i64 0, .int .i64 6]) (by simp [results, Try.results34, go_sem, q40, q41]) rfl ⟨((B.setCell (p := ⟨w.heap.size + 1 + 1, 0, none⟩) (by simp; omega) (.int .i8 0)).setCell (p := ⟨w.heap.size + 1 + 1, 1, none⟩) (by simp; omega) (.int .i8 0)), rfl⟩
    · obtain ⟨rfl, rfl, rfl, rfl⟩ : p0 = (px : Int) ∧ q0 = (py : Int) ∧ z1 = by_ ∧ z2 = 0 := by rcases HZ.out with k | k; exact k.2; exact absurd (HI.out.2 hz0) k.1
      have hzb : (z1 == 0) = false := by simpa using hz0
      clear HZ HI hz0
      go_wp2
      have Y4 := (X4.set 0 (.int .i8 (px : Int))).set 1 (.int .i8 (py : Int))
      have q40 := Y4.cell 0
      have q41 := Y4.cell 1
      simp at q40 q41
      exact bodyPost_ret (v := .tuple #[.agg #[.int .i8 (px : Int), .int .i8 (py : Int)], .int .i64 z1, .int .i64 0]) (by simp [results, Try.results34, go_sem, q40, q41]) rfl ⟨((B.setCell (p := ⟨w.heap.size + 1 + 1, 0, none⟩) (by simp; omega) (.int .i8 (px : Int))).setCell (p := ⟨w.heap.size + 1 + 1, 1, none⟩) (by simp; omega) (.int .i8 (py : Int))), rfl⟩

theorem both (X Y : Int) (h : Nat → Int) (n : Nat) (c : Nat → Int) (a b : Int) (hX : -128 ≤ X ∧ X ≤ 127) (hY : -128 ≤ Y ∧ Y ≤ 127) (hh : ∀ p, -32768 ≤ h p ∧ h p ≤ 32767) (hc : ∀ j, -128 ≤ c j ∧ c j ≤ 127) (hm : n ≤ 1048576) (ha : -128 ≤ a ∧ a ≤ 127) (hb : -128 ≤ b ∧ b ≤ 127) :
    ∃ (p0 q0 : Int) (z1 : Int) (z2 : Int), (∀ (W : World) (g : Nat), Ac W g n c → Calls Try.prog 32 #[.agg (gV X Y h (.slice (some ⟨g, 0, none⟩) n n)), .agg #[.int .i8 a, .int .i8 b]] W fun e w' => Below W.heap.size W w' ∧ e = .returned (.tuple #[.agg #[.int .i8 p0, .int .i8 q0], .int .i64 z1, .int .i64 z2])) ∧
      (∀ (W : World) (g : Nat), Ac W g n c → Calls Try.prog 34 #[.agg (gV X Y h (.slice (some ⟨g, 0, none⟩) n n)), .agg #[.int .i8 a, .int .i8 b]] W fun e w' => Below W.heap.size W w' ∧ e = .returned (.tuple #[.agg #[.int .i8 p0, .int .i8 q0], .int .i64 z1, .int .i64 z2])) := by
  by_cases hv : GValid X Y h n c
  · by_cases hin : gIs X Y a b
    · obtain ⟨W', rfl⟩ := Int.eq_ofNat_of_zero_le (show 0 ≤ X by have := hv.1.1; omega)
      obtain ⟨H', rfl⟩ := Int.eq_ofNat_of_zero_le (show 0 ≤ Y by have := hv.1.2.1; omega)
      obtain ⟨x, y, rfl, rfl, hx, hy⟩ := gIs_nat hin
      by_cases hg : Goes W' H' h n c (x, y)
      · exact ⟨_, _, _, 0, fun W g A => spec_in W' H' h g n c x y W hh hc A hv hx hy _ _ _ _ (.inl ⟨hg, rfl, rfl, rfl, rfl⟩), fun W g A => impl_in W' H' h g n c x y W hh hc A hv hx hy _ _ _ _ (.inl ⟨hg, rfl, rfl, rfl, rfl⟩)⟩
      · exact ⟨0, 0, 0, 6, fun W g A => spec_in W' H' h g n c x y W hh hc A hv hx hy _ _ _ _ (.inr ⟨hg, rfl, rfl, rfl, rfl⟩), fun W g A => impl_in W' H' h g n c x y W hh hc A hv hx hy _ _ _ _ (.inr ⟨hg, rfl, rfl, rfl, rfl⟩)⟩
    · exact ⟨0, 0, 0, 2, fun W g A => spec_bad X Y h g n c a b W hX hY hh hc hm ha hb A 2 (.inr ⟨hv, hin, rfl⟩), fun W g A => impl_bad X Y h g n c a b W hX hY hh hc hm ha hb A 2 (.inr ⟨hv, hin, rfl⟩)⟩
  · exact ⟨0, 0, 0, 1, fun W g A => spec_bad X Y h g n c a b W hX hY hh hc hm ha hb A 1 (.inl ⟨hv, rfl⟩), fun W g A => impl_bad X Y h g n c a b W hX hY hh hc hm ha hb A 1 (.inl ⟨hv, rfl⟩)⟩
end fallAt
end Go.Proofs.Ytegnhpanlbfmdaa
