/-
  Both sides of SteepestFall answer the same. Conditions stand at each.
-/
import Derived.Test.YtegnhpanlbfmdaaRows
import Derived.Test.YtegnhpanlbfmdaaLeastC
import Derived.Test.YtegnhpanlbfmdaaCollC
import Derived.Test.YtegnhpanlbfmdaaLowI
import Derived.Test.YtegnhpanlbfmdaaLandAt
import Derived.Test.YtegnhpanlbfmdaaRunS
import Derived.Deep.Cut
import Derived.Deep.RegionHeld3
namespace Go.Proofs.Ytegnhpanlbfmdaa
open Go Go.ChangeShapes Go.WideShapes Go.ChangeAt Go.RowKit
set_option linter.unusedVariables false
set_option linter.unusedSimpArgs false
set_option maxRecDepth 100000
set_option maxHeartbeats 4000000

namespace steepestFall
/-- the fall at a point. -/
def dF (W H : Nat) (h : Nat → Int) (p : Nat × Nat) : Int := htP h p - htP h (lowP W H h p)
theorem dF_nonneg {W H : Nat} {h : Nat → Int} (p : Nat × Nat) : 0 ≤ dF W H h p := by
  have := (lowL_le (h := h) (besL W H p.1 p.2) p).1
  unfold dF
  show 0 ≤ htP h p - htP h (lowL h (besL W H p.1 p.2) p)
  omega
def bS (d : Nat → Int) : Nat → Nat × Int
  | 0 => (0, 0)
  | i + 1 => if (bS d i).2 < d i then (i, d i) else bS d i
theorem bS_yes {d : Nat → Int} {i : Nat} (h : (bS d i).2 < d i) : bS d (i + 1) = (i, d i) := if_pos h
theorem bS_no {d : Nat → Int} {i : Nat} (h : ¬ (bS d i).2 < d i) : bS d (i + 1) = bS d i := if_neg h
theorem bS_spec (d : Nat → Int) : ∀ n, 0 ≤ (bS d n).2 ∧ (∀ j, j < n → d j ≤ (bS d n).2) ∧ ((bS d n).2 = 0 ∨ ((bS d n).1 < n ∧ d (bS d n).1 = (bS d n).2 ∧ ∀ j, j < (bS d n).1 → d j < (bS d n).2))
  | 0 => ⟨Int.le_refl _, fun j hj => absurd hj (by omega), .inl rfl⟩
  | n + 1 => by
    obtain ⟨h1, h2, h3⟩ := bS_spec d n
    by_cases h : (bS d n).2 < d n
    · rw [bS_yes h]
      refine ⟨by show 0 ≤ d n; omega, fun j hj => ?_, .inr ⟨by omega, rfl, fun j hj => ?_⟩⟩
      · by_cases e : j = n
        · subst e; exact Int.le_refl _
        · have := h2 j (by omega); show d j ≤ d n; omega
      · have := h2 j hj; show d j < d n; omega
    · rw [bS_no h]
      refine ⟨h1, fun j hj => ?_, h3.imp id fun k => ⟨by omega, k.2.1, k.2.2⟩⟩
      by_cases e : j = n
      · subst e; omega
      · exact h2 j (by omega)
/-- the best of the model is that of the program. -/
theorem bS_ls (d : Nat → Int) (n : Nat) (h1 : 1 ≤ n) (h0 : ∀ j, 0 ≤ d j) : (d (lsS (fun i => - d i) n).1 = 0 → (bS d n).2 = 0) ∧ (d (lsS (fun i => - d i) n).1 ≠ 0 → bS d n = ((lsS (fun i => - d i) n).1, d (lsS (fun i => - d i) n).1)) := by
  obtain ⟨l1, l2, l3, l4⟩ := lsS_spec (fun i => - d i) n h1
  generalize (lsS (fun i => - d i) n).1 = k at l1 l3 l4 ⊢
  obtain ⟨b1, b2, b3⟩ := bS_spec d n
  try dsimp only at l3 l4
  constructor
  · intro hk
    rcases b3 with e | ⟨e1, e2, _⟩
    · exact e
    · have := l3 _ e1; omega
  · intro hk
    have hk0 := h0 k
    have hb := b2 k l1
    rcases b3 with e | ⟨e1, e2, e3⟩
    · omega
    · have hle := l3 _ e1
      have heq : d k = (bS d n).2 := by omega
      have hkk : (bS d n).1 = k := by
        rcases Nat.lt_trichotomy (bS d n).1 k with g | g | g
        · have := l4 _ g; omega
        · exact g
        · have := e3 _ g; omega
      exact Prod.ext hkk heq.symm
theorem cfL_at {L : List (Nat × Nat)} {k : Nat} {q : Nat × Nat} (h : L[k]? = some q) : cfL L (2 * k) = (q.1 : Int) ∧ cfL L (2 * k + 1) = (q.2 : Int) := by
  unfold cfL
  rw [show 2 * k / 2 = k by omega, show (2 * k + 1) / 2 = k by omega, h]
  exact ⟨if_pos (by omega), if_neg (by omega)⟩

theorem spec_bad (X Y : Int) (h : Nat → Int) (g n : Nat) (c : Nat → Int) (w : World) (hX : -128 ≤ X ∧ X ≤ 127) (hY : -128 ≤ Y ∧ Y ≤ 127) (hh : ∀ p, -32768 ≤ h p ∧ h p ≤ 32767) (hc : ∀ j, -128 ≤ c j ∧ c j ≤ 127) (hm : n ≤ 1048576) (hA : Ac w g n c) (hz : ¬ GValid X Y h n c) :
    Calls Try.prog 48 #[.agg (gV X Y h (.slice (some ⟨g, 0, none⟩) n n))] w fun e w' => Below w.heap.size w w' ∧ e = .returned (.tuple #[.agg #[.int .i8 0, .int .i8 0], .agg #[.int .i8 0, .int .i8 0], .int .i64 0, .int .i64 1]) := by
  have HH := Lib.hid hh
  have HC := Lib.hid hc
  clear hh hc
  have X2 := ((Bx.new w (gV X Y h (.slice (some ⟨g, 0, none⟩) n n)) 33).alloc (.cells #[.int .i8 0, .int .i8 0] 40)).alloc (.cells #[.int .i8 0, .int .i8 0] 40)
  have Z2 := (Bx.newAt (w.alloc (.cells (gV X Y h (.slice (some ⟨g, 0, none⟩) n n)) 33)) (w.heap.size + 1) #[.int .i8 0, .int .i8 0] 40 (by simp)).alloc (.cells #[.int .i8 0, .int .i8 0] 40)
  have Z3 := Bx.newAt ((w.alloc (.cells (gV X Y h (.slice (some ⟨g, 0, none⟩) n n)) 33)).alloc (.cells #[.int .i8 0, .int .i8 0] 40)) (w.heap.size + 1 + 1) #[.int .i8 0, .int .i8 0] 40 (by simp)
  have B := al (al (al (Below.refl w.heap.size w) (.cells (gV X Y h (.slice (some ⟨g, 0, none⟩) n n)) 33)) (.cells #[.int .i8 0, .int .i8 0] 40)) (.cells #[.int .i8 0, .int .i8 0] 40)
  replace hA := ((hA.alloc (.cells (gV X Y h (.slice (some ⟨g, 0, none⟩) n n)) 33)).alloc (.cells #[.int .i8 0, .int .i8 0] 40)).alloc (.cells #[.int .i8 0, .int .i8 0] 40)
  go_enter Try.func48, Try.ntmps48
  go_upto_region 1 with fail
  obtain ⟨W0, hW0⟩ : ∃ W0 : World, W0 = ((w.alloc (.cells (gV X Y h (.slice (some ⟨g, 0, none⟩) n n)) 33)).alloc (.cells #[.int .i8 0, .int .i8 0] 40)).alloc (.cells #[.int .i8 0, .int .i8 0] 40) := ⟨_, rfl⟩
  rw [← hW0] at X2 Z2 Z3 B hA ⊢
  clear hW0
  go_wp2_with fail
  refine (gok_any X Y h w.heap.size _ n n c _ hX hY HH.out HC.out hm X2 hA.rd).mono ?_
  rintro e w1 ⟨hb, ⟨hv, rfl⟩ | ⟨hv, rfl⟩⟩
  · exact absurd hv hz
  replace Z2 := Z2.below hb
  replace Z3 := Z3.below hb
  replace B := nxt B hb
  clear hb
  clear hv hz X2 hA
  have f20 := Z2.frozen 0
  have f21 := Z2.frozen 1
  have f30 := Z3.frozen 0
  have f31 := Z3.frozen 1
  have s20 := Z2.cell 0
  have s21 := Z2.cell 1
  have s30 := Z3.cell 0
  have s31 := Z3.cell 1
  simp only [List.getElem?_toArray, List.getElem?_cons_zero, List.getElem?_cons_succ] at s20 s21 s30 s31
  go_wp2
  have Y2 := (((Z2.set 0 (.int .i8 0)).set 1 (.int .i8 0)).other (g := w.heap.size + 1 + 1) (o := 0) (.int .i8 0) (by omega)).other (g := w.heap.size + 1 + 1) (o := 1) (.int .i8 0) (by omega)
  have Y3 := (((Z3.other (g := w.heap.size + 1) (o := 0) (.int .i8 0) (by omega)).other (g := w.heap.size + 1) (o := 1) (.int .i8 0) (by omega)).set 0 (.int .i8 0)).set 1 (.int .i8 0)
  have q20 := Y2.cell 0
  have q21 := Y2.cell 1
  have q30 := Y3.cell 0
  have q31 := Y3.cell 1
  simp at q20 q21 q30 q31
  exact bodyPost_ret (v := .tuple #[.agg #[.int .i8 0, .int .i8 0], .agg #[.int .i8 0, .int .i8 0], .int .i64 0, .int .i64 1]) (by simp [results, Try.results48, go_sem, q20, q21, q30, q31]) rfl ⟨((((B.setCell (p := ⟨w.heap.size + 1, 0, none⟩) (by show w.heap.size ≤ w.heap.size + 1; omega) (.int .i8 0)).setCell (p := ⟨w.heap.size + 1, 1, none⟩) (by show w.heap.size ≤ w.heap.size + 1; omega) (.int .i8 0)).setCell (p := ⟨w.heap.size + 1 + 1, 0, none⟩) (by show w.heap.size ≤ w.heap.size + 1 + 1; omega) (.int .i8 0)).setCell (p := ⟨w.heap.size + 1 + 1, 1, none⟩) (by show w.heap.size ≤ w.heap.size + 1 + 1; omega) (.int .i8 0)), rfl⟩
theorem impl_bad (X Y : Int) (h : Nat → Int) (g n : Nat) (c : Nat → Int) (w : World) (hX : -128 ≤ X ∧ X ≤ 127) (hY : -128 ≤ Y ∧ Y ≤ 127) (hh : ∀ p, -32768 ≤ h p ∧ h p ≤ 32767) (hc : ∀ j, -128 ≤ c j ∧ c j ≤ 127) (hm : n ≤ 1048576) (hA : Ac w g n c) (hz : ¬ GValid X Y h n c) :
    Calls Try.prog 49 #[.agg (gV X Y h (.slice (some ⟨g, 0, none⟩) n n))] w fun e w' => Below w.heap.size w w' ∧ e = .returned (.tuple #[.agg #[.int .i8 0, .int .i8 0], .agg #[.int .i8 0, .int .i8 0], .int .i64 0, .int .i64 1]) := by
  have HH := Lib.hid hh
  have HC := Lib.hid hc
  clear hh hc
  have X2 := ((Bx.new w (gV X Y h (.slice (some ⟨g, 0, none⟩) n n)) 33).alloc (.cells #[.int .i8 0, .int .i8 0] 40)).alloc (.cells #[.int .i8 0, .int .i8 0] 40)
  have Z2 := (Bx.newAt (w.alloc (.cells (gV X Y h (.slice (some ⟨g, 0, none⟩) n n)) 33)) (w.heap.size + 1) #[.int .i8 0, .int .i8 0] 40 (by simp)).alloc (.cells #[.int .i8 0, .int .i8 0] 40)
  have Z3 := Bx.newAt ((w.alloc (.cells (gV X Y h (.slice (some ⟨g, 0, none⟩) n n)) 33)).alloc (.cells #[.int .i8 0, .int .i8 0] 40)) (w.heap.size + 1 + 1) #[.int .i8 0, .int .i8 0] 40 (by simp)
  have B := al (al (al (Below.refl w.heap.size w) (.cells (gV X Y h (.slice (some ⟨g, 0, none⟩) n n)) 33)) (.cells #[.int .i8 0, .int .i8 0] 40)) (.cells #[.int .i8 0, .int .i8 0] 40)
  replace hA := ((hA.alloc (.cells (gV X Y h (.slice (some ⟨g, 0, none⟩) n n)) 33)).alloc (.cells #[.int .i8 0, .int .i8 0] 40)).alloc (.cells #[.int .i8 0, .int .i8 0] 40)
  go_enter Try.func49, Try.ntmps49
  go_upto_region 1 with fail
  obtain ⟨W0, hW0⟩ : ∃ W0 : World, W0 = ((w.alloc (.cells (gV X Y h (.slice (some ⟨g, 0, none⟩) n n)) 33)).alloc (.cells #[.int .i8 0, .int .i8 0] 40)).alloc (.cells #[.int .i8 0, .int .i8 0] 40) := ⟨_, rfl⟩
  rw [← hW0] at X2 Z2 Z3 B hA ⊢
  clear hW0
  go_wp2_with (refine wpList_load_box X2 rfl _ _ rfl rfl _ Try.underlying33 rfl (infoGv _ _ _ _) ?_)
  refine (landOf_any X Y h g n c _ hX hY HH.out HC.out hm hA).mono ?_
  rintro e w1 ⟨hb, ⟨hv, p, m, rfl, hpm, hmp, hL⟩ | ⟨hv, rfl⟩⟩
  · exact absurd hv hz
  replace Z2 := (Z2.below hb).alloc (.cells #[.pointer none] 130)
  replace Z3 := (Z3.below hb).alloc (.cells #[.pointer none] 130)
  replace B := al (nxt B hb) (.cells #[.pointer none] 130)
  clear hb
  clear hv hz X2 hA
  have f20 := Z2.frozen 0
  have f21 := Z2.frozen 1
  have f30 := Z3.frozen 0
  have f31 := Z3.frozen 1
  have s20 := Z2.cell 0
  have s21 := Z2.cell 1
  have s30 := Z3.cell 0
  have s31 := Z3.cell 1
  simp only [List.getElem?_toArray, List.getElem?_cons_zero, List.getElem?_cons_succ] at s20 s21 s30 s31
  go_wp2
  have Y2 := (((Z2.set 0 (.int .i8 0)).set 1 (.int .i8 0)).other (g := w.heap.size + 1 + 1) (o := 0) (.int .i8 0) (by omega)).other (g := w.heap.size + 1 + 1) (o := 1) (.int .i8 0) (by omega)
  have Y3 := (((Z3.other (g := w.heap.size + 1) (o := 0) (.int .i8 0) (by omega)).other (g := w.heap.size + 1) (o := 1) (.int .i8 0) (by omega)).set 0 (.int .i8 0)).set 1 (.int .i8 0)
  have q20 := Y2.cell 0
  have q21 := Y2.cell 1
  have q30 := Y3.cell 0
  have q31 := Y3.cell 1
  simp at q20 q21 q30 q31
  exact bodyPost_ret (v := .tuple #[.agg #[.int .i8 0, .int .i8 0], .agg #[.int .i8 0, .int .i8 0], .int .i64 0, .int .i64 1]) (by simp [results, Try.results49, go_sem, q20, q21, q30, q31]) rfl ⟨((((B.setCell (p := ⟨w.heap.size + 1, 0, none⟩) (by show w.heap.size ≤ w.heap.size + 1; omega) (.int .i8 0)).setCell (p := ⟨w.heap.size + 1, 1, none⟩) (by show w.heap.size ≤ w.heap.size + 1; omega) (.int .i8 0)).setCell (p := ⟨w.heap.size + 1 + 1, 0, none⟩) (by show w.heap.size ≤ w.heap.size + 1 + 1; omega) (.int .i8 0)).setCell (p := ⟨w.heap.size + 1 + 1, 1, none⟩) (by show w.heap.size ≤ w.heap.size + 1 + 1; omega) (.int .i8 0)), rfl⟩
theorem steepC_any (W H x y pb b m n : Nat) (h c : Nat → Int) (w : World) (hW : W ≤ 9) (hH : H ≤ 9) (hx : x < W) (hy : y < H) (hh : ∀ p, -32768 ≤ h p ∧ h p ≤ 32767) (hP : Bx w pb #[.pointer (some ⟨b, 0, none⟩)] 130) (hL : LandAt w b m n W H h c) :
    Calls Try.prog 140 #[.agg #[.int .i8 (x : Int), .int .i8 (y : Int)], .pointer (some ⟨pb, 0, none⟩)] w fun e w' => e = .returned (.int .i64 (- dF W H h (x, y))) ∧ Below w.heap.size w w' := by
  have HH := Lib.hid hh
  clear hh
  have B := al (Below.refl w.heap.size w) (.cells #[.int .i8 (x : Int), .int .i8 (y : Int)] 40)
  replace hL := hL.next (al (Below.refl w.heap.size w) (.cells #[.int .i8 (x : Int), .int .i8 (y : Int)] 40))
  have cp := (hP.alloc (.cells #[.int .i8 (x : Int), .int .i8 (y : Int)] 40)).cell 0
  simp only [List.getElem?_toArray, List.getElem?_cons_zero] at cp
  go_enter Try.func140, Try.ntmps140
  go_wp2_with fail
  refine (low_any W H x y b h _ _ hW hH hx hy HH.out hL.1).mono ?_
  rintro e w1 ⟨hb, rfl⟩
  replace B := nxt B hb
  have hd : htP h (x, y) - htP h (lowP W H h (x, y)) = dF W H h (x, y) := rfl
  have hd0 := dF_nonneg (W := W) (H := H) (h := h) (x, y)
  have hd1 : dF W H h (x, y) ≤ 65535 := by
    have h1 := HH.out (y * 9 + x)
    have h2 := HH.out ((lowP W H h (x, y)).2 * 9 + (lowP W H h (x, y)).1)
    unfold dF htP
    dsimp only
    omega
  rw [hd]
  obtain ⟨⟨px, py⟩, hq⟩ : ∃ q, lowP W H h (x, y) = q := ⟨_, rfl⟩
  rw [hq]
  obtain ⟨d, hdd⟩ : ∃ d, d = dF W H h (x, y) := ⟨_, rfl⟩
  rw [← hdd] at hd0 hd1 ⊢
  have HD := Lib.hid hdd
  dsimp only [cellA]
  have wz : IntKind.i64.wrap (- d) = - d := IntWalk.i64_in _ (by omega)
  clear hb hd hq cp hL hdd
  go_wp2
  go_ret
  exact ⟨by rw [← HD.out]; rfl, al B _⟩

end steepestFall
end Go.Proofs.Ytegnhpanlbfmdaa
