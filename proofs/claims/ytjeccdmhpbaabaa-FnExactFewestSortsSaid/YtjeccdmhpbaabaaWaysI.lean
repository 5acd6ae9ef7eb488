/-
  The contract of impl.WaysToFill. Conditions stand at each.
-/
import Derived.Test.YtjeccdmhpbaabaaRows
import Derived.Test.YtjeccdmhpbaabaaWaysS
namespace Go.Proofs.Ytjeccdmhpbaabaa
open Go Go.ChangeShapes Go.WideShapes Go.ChangeAt Go.RowKit
set_option linter.unusedVariables false
set_option linter.unusedSimpArgs false
set_option maxRecDepth 100000
set_option maxHeartbeats 2000000

/-- in how many ways the first sorts leave a room. -/
def wI (L : Nat) (c d : Nat → Int) (k : Int) : Nat → Nat → Int
  | 0 => fun j => if j = L then 1 else 0
  | i + 1 => wDown (c i + k).toNat (d i).toNat (wI L c d k i) (L + 1)
theorem wI_eq (L : Nat) (c d : Nat → Int) (k : Int) (hk : 0 ≤ k) : ∀ i, (∀ j, j < i → 1 ≤ c j) → ∀ j, j ≤ L → wI L c d k i j = wS c d k i (L - j)
  | 0, _, j, hj => by
    show (if j = L then (1 : Int) else 0) = if L - j = 0 then 1 else 0
    by_cases e : j = L
    · rw [if_pos e, if_pos (by omega)]
    · rw [if_neg e, if_neg (by omega)]
  | i + 1, hc, j, hj => by
    have h1 := hc i (by omega)
    exact wDown_up _ _ L (by omega) _ _ (fun j hj => wI_eq L c d k hk i (fun j hj => hc j (by omega)) j hj) j hj

theorem make_i64n (M : Nat) (hL : M ≤ 1001) (W : World) :
    (Instr.makeSlice 29 (.int .i64 (M : Int)) (.int .i64 (M : Int))).run Try.prog W = .ok (.slice (some ⟨W.heap.size, 0, none⟩) M M) (W.alloc (.cells (madeCells #[.int .i64 0] M) 2)) := by
  obtain ⟨i0, hi, hz0, hz1, hz2⟩ := info_parts infoI64
  have h := run_make_rowN (P := Try.prog) 29 2 i0 _ Try.underlying29 hi hz0 .i64 .i64 M M (Nat.le_refl _) (by rw [hz2]; omega) (by omega) W
  rw [hz1, Nat.mul_one] at h
  exact h

theorem implWays_any (A : Option Addr) (n : Nat) (c d : Nat → Int) (l k : Int) (w : World) (hn : n ≤ 1048576) (hr : RdS w w.heap.size A n c d) (hc : ∀ j, -128 ≤ c j ∧ c j ≤ 127) (hd : ∀ j, -32768 ≤ d j ∧ d j ≤ 32767) :
    Calls Try.prog 63 #[.slice A n n, .int .i64 l, .int .i64 k] w (Wayed (SOk n c d) (JointOk k ∧ LongOk l) (wS c d k n (l + k).toNat) w) := by
  have HR := Lib.hid hr
  have HC := Lib.hid hc
  have HD := Lib.hid hd
  clear hr hc hd
  go_enter Try.func63, Try.ntmps63
  go_wp2_with fail
  obtain ⟨W0, hW0⟩ : ∃ W0 : World, W0 = w.alloc (.cells #[.int .i64 l] 2) := ⟨_, rfl⟩
  have B0 : Below w.heap.size w W0 := by rw [hW0]; exact al (Below.refl _ _) _
  have R0 : RdK .i64 W0 W0.heap.size (some ⟨w.heap.size, 0, none⟩) 1 (fun _ => l) := by
    rw [hW0]
    refine fun _ => ⟨w.heap.size, 0, rfl, by simp, fun j hj => ?_⟩
    obtain rfl : j = 0 := by omega
    rw [cell_of_row _ _ 0 _ _ _ (heap_alloc_new w _)]; rfl
  rw [← hW0]
  clear hW0
  refine (codeOfRows_any A _ n n 1 1 c d (fun _ => l) k _ hn (by omega) ((HR.out.below B0).mono B0.size) R0 HC.out HD.out).mono ?_
  rintro e w2 ⟨hb, ⟨h, h', rfl⟩ | ⟨h, rfl⟩ | ⟨h, h', rfl⟩⟩
  case inr.inl =>
    have H2 := Lib.hid h
    have B2 := nxt B0 hb
    clear h R0 hb
    go_wp2_with fail
    go_ret2
    exact ⟨B2, .inr (.inl ⟨H2.out, rfl⟩)⟩
  case inr.inr =>
    have H2 := Lib.hid h
    have H3 := Lib.hid h'
    have B2 := nxt B0 hb
    clear h h' R0 hb
    go_wp2_with fail
    go_ret2
    exact ⟨B2, .inr (.inr ⟨H2.out, fun h => H3.out ⟨h.1, fun _ _ => h.2⟩, rfl⟩)⟩
  have H2 := Lib.hid h
  have hl := h'.2 0 (by omega)
  have hk := h'.1
  have H := Lib.hid hl
  have H1 := Lib.hid hk
  have B2 := nxt B0 hb
  have g3 := B2.size
  clear h h' R0 hb B0
  unfold LongOk at hl
  unfold JointOk at hk
  obtain ⟨L, hL⟩ : ∃ L : Nat, l + k = (L : Int) := ⟨(l + k).toNat, by omega⟩
  have hL2 : L ≤ 405 := by omega
  have hL1 : 1 ≤ L := by omega
  have hLt : (l + k).toNat = L := by omega
  have HLt := Lib.hid hLt
  have HLe := Lib.hid hL
  clear hLt
  obtain ⟨M, hM⟩ : ∃ M, M = L + 1 := ⟨_, rfl⟩
  have hMi : (M : Int) = (L : Int) + 1 := by omega
  have hmk := make_i64 L M hM (by omega)
  have HMk := Lib.hid hmk
  have HM := Lib.hid hM
  have HMi := Lib.hid hMi
  clear hM hMi hmk hL
  have hM0 : (L : Int) < (M : Int) := by have := HM.out; omega
  have hM1 : L < M := by have := HM.out; omega
  go_wp2_with fail
  refine (roomOf_any l k _ (by omega) (by omega)).mono ?_
  rintro e w3 ⟨rfl, rfl⟩
  rw [HLe.out]
  have hmk := HMk.out
  go_wp2_with fail
  have hA := made_ar w2 M
  obtain ⟨W3, hW3⟩ : ∃ W3 : World, W3 = w2.alloc (.cells (madeCells #[.int .i64 0] M) 2) := ⟨_, rfl⟩
  have B3 : Below w.heap.size w W3 := by rw [hW3]; exact al B2 _
  rw [← hW3] at hA ⊢
  clear hW3 hmk
  refine (roomOf_any l k _ (by omega) (by omega)).mono ?_
  rintro e w4 ⟨rfl, rfl⟩
  rw [HLe.out]
  obtain ⟨q0, f0⟩ := hA.at hM1
  go_wp2_with fail
  have A3 : Ar (W3.setCell ⟨w2.heap.size, L, none⟩ (.int .i64 1)) w2.heap.size M (wI L c d k 0) := hA.set hM1 1
  have B4 : Below w.heap.size w (W3.setCell ⟨w2.heap.size, L, none⟩ (.int .i64 1)) := B3.setCell (p := ⟨w2.heap.size, L, none⟩) g3 _
  obtain ⟨W5, hW5⟩ : ∃ W5 : World, W5 = W3.setCell ⟨w2.heap.size, L, none⟩ (.int .i64 1) := ⟨_, rfl⟩
  rw [← hW5] at A3 B4 ⊢
  have HA3 := Lib.hid A3
  clear hW5 q0 f0 hA A3 B3 B2
  have hmk := make_i64n M (by have := HM.out; omega)
  go_loopw [9, 36] (fun t9 t36 wr => ∃ i : Nat, i ≤ n ∧ t36 = .int .i64 i ∧ Below w.heap.size w wr ∧ ∃ g, t9 = .slice (some ⟨g, 0, none⟩) M M ∧ w.heap.size ≤ g ∧ Ar wr g M (wI L c d k i)) (fun t9 t36 wr => n - (intOf t36).toNat)
  case atStart => exact ⟨0, by omega, rfl, B4, _, rfl, g3, HA3.out⟩
  case round =>
    clear B4
    obtain ⟨i, hi, rfl, B, g, rfl, hg, hA⟩ := hrel
    obtain ⟨wo, rfl⟩ : ∃ wo : World, wo = wr := ⟨_, rfl⟩
    have HB := Lib.hid B
    have HA := Lib.hid hA
    clear B hA
    by_cases hlt : i < n
    · have hlti : (i : Int) < (n : Int) := by omega
      obtain ⟨b, off, rfl, hbl, c0, c1⟩ := (HR.out.below HB.out).at hlt
      have hsat := H2.out.2 i hlt
      obtain ⟨hx, hy, _⟩ := hsat
      obtain ⟨x, ex⟩ : ∃ x, x = c i := ⟨_, rfl⟩
      obtain ⟨cnt, ecnt⟩ : ∃ cnt : Nat, d i = (cnt : Int) := ⟨(d i).toNat, by omega⟩
      obtain ⟨by', eby⟩ : ∃ by' : Nat, c i + k = (by' : Int) := ⟨(c i + k).toNat, by omega⟩
      have hby : 1 ≤ by' := by omega
      have hby2 : by' ≤ 25 := by omega
      have hcnt : cnt ≤ 60 := by omega
      have hws : wI L c d k (i + 1) = wDown by' cnt (wI L c d k i) (L + 1) := by
        rw [wI, eby, ecnt]; rfl
      have HW := Lib.hid hws
      obtain ⟨f, hf⟩ : ∃ f, f = wI L c d k i := ⟨_, rfl⟩
      rw [← hf] at HA HW
      rw [← ex] at c0 hx eby
      rw [ecnt] at c1 hy
      have HE := Lib.hid eby
      clear hws ex ecnt hf eby
      have hbl2 : b < w.heap.size := hbl
      go_wp2_with fail
      obtain ⟨bx, hbx⟩ : ∃ bx, bx = wo.heap.size := ⟨_, rfl⟩
      obtain ⟨g2, hg2⟩ : ∃ g2, g2 = wo.heap.size + 1 := ⟨_, rfl⟩
      have hne : g ≠ g2 := by have := HA.out.1; omega
      have hnx : bx ≠ g2 := by omega
      have hxw : w.heap.size ≤ bx := by have := HB.out.size; omega
      have hgg : w.heap.size ≤ g2 := by have := HB.out.size; omega
      have hX0 := heap_alloc_new wo (.cells #[.int .i8 x, .int .i16 (cnt : Int)] 89)
      have hA2 := made_ar (wo.alloc (.cells #[.int .i8 x, .int .i16 (cnt : Int)] 89)) M
      have hA1 := (HA.out.alloc (.cells #[.int .i8 x, .int .i16 (cnt : Int)] 89)).alloc (.cells (madeCells #[.int .i64 0] M) 2)
      have hB2 := al (al HB.out (.cells #[.int .i8 x, .int .i16 (cnt : Int)] 89)) (.cells (madeCells #[.int .i64 0] M) 2)
      obtain ⟨V, hV⟩ : ∃ V : World, V = (wo.alloc (.cells #[.int .i8 x, .int .i16 (cnt : Int)] 89)).alloc (.cells (madeCells #[.int .i64 0] M) 2) := ⟨_, rfl⟩
      have hX1 : V.heap[bx]? = some (.cells #[.int .i8 x, .int .i16 (cnt : Int)] 89 (0, 0)) := by
        rw [hV, hbx]; exact (Below.heap_alloc _ _ _ (by simp)).trans hX0
      rw [World.size_alloc] at hA2
      rw [← hV] at hA1 hA2 hB2 ⊢
      rw [← hg2] at hA2 ⊢
      rw [← hbx]
      clear hV hg2 hbx hX0 HB HA c0 c1 hmk
      go_loopw [13, 14, 15, 45] (fun t13 t14 t15 t45 wr => ∃ m : Nat, m ≤ M ∧ t45 = .int .i64 m ∧ Below w.heap.size w wr ∧ wr.heap[bx]? = some (.cells #[.int .i8 x, .int .i16 (cnt : Int)] 89 (0, 0)) ∧ Ar wr g M f ∧ Ar wr g2 M (wDown by' cnt f m)) (fun t13 t14 t15 t45 wr => M - (intOf t45).toNat)
      case atStart => exact ⟨0, by omega, rfl, hB2, hX1, hA1, hA2⟩
      case round =>
        clear hB2 hX1 hA1 hA2
        obtain ⟨m, hm, rfl, B, X1, A1, A2⟩ := hrel
        obtain ⟨wp, rfl⟩ : ∃ wp : World, wp = wr := ⟨_, rfl⟩
        have HB := Lib.hid B
        have HX := Lib.hid X1
        have HA1 := Lib.hid A1
        have HA2 := Lib.hid A2
        clear B X1 A1 A2
        by_cases hltm : m < M
        · have hmi : (m : Int) < (M : Int) := by omega
          have hm406 : m ≤ 405 := by have := HM.out; omega
          have cm := (HA1.out.at hltm).1
          obtain ⟨v, hv⟩ : ∃ v, v = f m := ⟨_, rfl⟩
          rw [← hv] at cm
          have cX0 := cell_of_row wp bx 0 _ _ _ HX.out
          have cX1 := cell_of_row wp bx 1 _ _ _ HX.out
          simp at cX0 cX1
          have HV := Lib.hid hv
          clear hv
          go_wp2_with fail
          refine (fitting_any x k cnt m by' _ hx hk HE.out hcnt (by omega)).mono ?_
          rintro e w6 ⟨rfl, hb⟩
          have HB6 := Lib.hid (nxt HB.out hb)
          have HX6 := Lib.hid ((hb.block bx (Array.getElem?_eq_some_iff.1 HX.out).1).trans HX.out)
          have HA16 := Lib.hid (HA1.out.below hb)
          have HA26 := Lib.hid (HA2.out.below hb)
          clear hb cX0 cX1 cm HB HX HA1 HA2
          have hfit : ((min cnt (m / by') : Nat) : Int) + 1 = (fitN by' cnt m : Int) := rfl
          obtain ⟨F, hF⟩ : ∃ F, F = fitN by' cnt m := ⟨_, rfl⟩
          obtain ⟨mi, hmi2⟩ : ∃ mi, mi = min cnt (m / by') := ⟨_, rfl⟩
          rw [← hF, ← hmi2] at hfit
          rw [← hmi2]
          have hmi60 : mi ≤ 60 := by omega
          have HF := Lib.hid hF
          have HFI := Lib.hid hfit
          clear hF hmi2 hfit
          go_wp2_with fail
          have hFmi : F = mi + 1 := by have := HFI.out; omega
          go_loopw [15, 55] (fun t15 t55 wr => ∃ q : Nat, q ≤ F ∧ t55 = .int .i64 q ∧ Below w.heap.size w wr ∧ wr.heap[bx]? = some (.cells #[.int .i8 x, .int .i16 (cnt : Int)] 89 (0, 0)) ∧ Ar wr g M f ∧ Ar wr g2 M (wIn by' (f m) m q (wDown by' cnt f m))) (fun t15 t55 wr => F - (intOf t55).toNat)
          case atStart => exact ⟨0, Nat.zero_le _, rfl, HB6.out, HX6.out, HA16.out, HA26.out⟩
          case round =>
            clear HB6 HX6 HA16 HA26
            obtain ⟨q, hq, rfl, B, X1, A1, A2⟩ := hrel
            obtain ⟨wq, rfl⟩ : ∃ wq : World, wq = wr := ⟨_, rfl⟩
            have HB := Lib.hid B
            have HX := Lib.hid X1
            have HA1 := Lib.hid A1
            have HA2 := Lib.hid A2
            clear B X1 A1 A2
            by_cases hqf : q < F
            · have hqi : (q : Int) < (mi : Int) + 1 := by omega
              have h2 : q * by' ≤ m := (fitN_le (cnt := cnt) (show 0 < by' by omega) (by rw [← HF.out]; exact hqf)).2
              have cX0 := cell_of_row wq bx 0 _ _ _ HX.out
              have cX1 := cell_of_row wq bx 1 _ _ _ HX.out
              simp at cX0 cX1
              have HFM := Lib.hid hFmi
              clear hFmi
              go_wp2_with fail
              refine (roomFor_any x cnt k q by' _ hx hk HE.out (by omega)).mono ?_
              rintro e w8 ⟨rfl, hb⟩
              obtain ⟨p, hp⟩ : ∃ p, p = q * by' := ⟨_, rfl⟩
              rw [← hp] at h2 ⊢
              have B8 := nxt HB.out hb
              have X8 := (hb.block bx (Array.getElem?_eq_some_iff.1 HX.out).1).trans HX.out
              have A18 := HA1.out.below hb
              have A28 := HA2.out.below hb
              obtain ⟨c28, F28⟩ := A28.at (show m - p < M by omega)
              obtain ⟨X0, hX0⟩ : ∃ X0, X0 = wIn by' (f m) m q (wDown by' cnt f m) (m - p) := ⟨_, rfl⟩
              rw [← hX0] at c28
              have HB8 := Lib.hid B8
              have HX8 := Lib.hid X8
              have HA18 := Lib.hid A18
              have HA28 := Lib.hid A28
              have HX0 := Lib.hid hX0
              have HP := Lib.hid hp
              have n0 : 0 ≤ (m : Int) - (p : Int) := by omega
              have n1 : (m : Int) - (p : Int) < (M : Int) := by omega
              have t1 : ((m : Int) - (p : Int)).toNat = m - p := by omega
              clear hb cX0 cX1 HB HX HA1 HA2 B8 X8 A18 A28 hX0 hp
              go_wp2_with fail
              have hfin : Ar (w8.setCell ⟨g2, m - p, none⟩ (.int .i64 (wrap64 (X0 + v)))) g2 M (wIn by' (f m) m (q + 1) (wDown by' cnt f m)) := by
                refine (HA28.out.set (show m - p < M by omega) (wrap64 (X0 + v))).congr fun j hj => ?_
                show (if j = m - p then wrap64 (X0 + v) else wIn by' (f m) m q (wDown by' cnt f m) j) = if j = m - q * by' then wrap64 (wIn by' (f m) m q (wDown by' cnt f m) j + f m) else wIn by' (f m) m q (wDown by' cnt f m) j
                rw [← HP.out]
                by_cases e : j = m - p
                · rw [if_pos e, if_pos e, HX0.out, HV.out, e]
                · rw [if_neg e, if_neg e]
              have hg1 : Ar (w8.setCell ⟨g2, m - p, none⟩ (.int .i64 (wrap64 (X0 + v)))) g M f := HA18.out.other (i := m - p) hne _
              exact ⟨⟨q + 1, by omega, by first | go_num | simp, HB8.out.setCell (p := ⟨g2, m - p, none⟩) hgg _, (Below.heap_setCell w8 _ _ _ hnx).trans HX8.out, hg1, hfin⟩, by simp [intOf]; omega⟩
            · obtain rfl : q = F := by omega
              have hqi : ¬ (q : Int) < (mi : Int) + 1 := by omega
              have HFM := Lib.hid hFmi
              have hfin : Ar wq g2 M (wDown by' cnt f (m + 1)) := by
                have := HA2.out
                rw [HF.out] at this
                exact this
              clear hFmi
              go_wp2_with fail
              exact ⟨⟨m + 1, by omega, by first | go_num | simp, HB.out, HX.out, HA1.out, hfin⟩, by simp [intOf]; omega⟩
        · obtain rfl : m = M := by omega
          have hmi : ¬ (m : Int) < (m : Int) := by omega
          have hfin : Ar wp g2 m (wI L c d k (i + 1)) := by
            have := HA2.out
            rw [HW.out]
            rwa [HM.out] at this ⊢
          go_wp2_with fail
          exact ⟨⟨i + 1, by omega, by first | go_num | simp, HB.out, g2, rfl, hgg, hfin⟩, by simp [intOf]; omega⟩
    · obtain rfl : i = n := by omega
      have hlti : ¬ (i : Int) < (i : Int) := by omega
      have cL := (HA.out.at (show 0 < M by omega)).1
      have hM00 : 0 < (M : Int) := by omega
      have e0 := wI_eq L c d k H1.out.1 i (fun j hj => (H2.out.2 j hj).1.1) 0 (Nat.zero_le _)
      rw [Nat.sub_zero] at e0
      rw [e0] at cL
      have HL0 := HLt.out
      clear e0
      go_wp2_with fail
      go_ret2
      exact ⟨HB.out, .inl ⟨H2.out, ⟨H1.out, H.out⟩, by first | rfl | rw [HL0]⟩⟩
end Go.Proofs.Ytjeccdmhpbaabaa
