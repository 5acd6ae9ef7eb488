/-
  The contract of spec.l03Table. Conditions stand at each.
-/
import Derived.Test.YtjeccdmhpbaabaaRows
import Derived.Test.YtjeccdmhpbaabaaFewI
import Derived.Test.YtjeccdmhpbaabaaWaysI
namespace Go.Proofs.Ytjeccdmhpbaabaa
open Go Go.ChangeShapes Go.WideShapes Go.ChangeAt Go.RowKit
set_option linter.unusedVariables false
set_option linter.unusedSimpArgs false
set_option maxRecDepth 100000
set_option maxHeartbeats 2000000

/-- m rows of numbers, from row i on, in a slice of slices. -/
def TabS (w : World) (base M : Nat) (T : Nat → Nat → Int) (G m i : Nat) : Prop :=
  (base ≤ G ∧ G < w.heap.size) ∧ ∃ r : Nat → Nat, ∀ j, j < m → w.cell? ⟨G, j, none⟩ = some (.slice (some ⟨r j, 0, none⟩) M M) ∧ base ≤ r j ∧ Ar w (r j) M (T (i + j))
theorem TabS.below {w w' : World} {base M B : Nat} {T : Nat → Nat → Int} {G m i : Nat} (h : TabS w base M T G m i) (hb : Below B w w') (hB : w.heap.size ≤ B) : TabS w' base M T G m i := by
  obtain ⟨⟨h1, h2⟩, r, h3⟩ := h
  refine ⟨⟨h1, Nat.lt_of_lt_of_le h2 hb.size⟩, r, fun j hj => ?_⟩
  obtain ⟨a1, a2, a3⟩ := h3 j hj
  exact ⟨(hb.cell (p := ⟨G, j, none⟩) (by show G < B; omega)).trans a1, a2, a3.kept hb.size (hb.block _ (by have := a3.1; omega))⟩
theorem infoRow : (Try.prog.info? 29).map (fun i => (i.zero, i.size, i.bytes)) = some (some (.slice none 0 0), 1, 24) := by kernel_rfl

/-- an empty row, filled from behind 0. -/
theorem tT_zero_row (b q : Nat → Nat) (n a : Nat) : TT b q n n a = if a = 0 then 0 else -1 := TT_end b q n a

def Tabled (M n : Nat) (T : Nat → Nat → Int) (w : World) (e : Ending) (w' : World) : Prop :=
  Below w.heap.size w w' ∧ ∃ G cp, e = .returned (.slice (some ⟨G, 0, none⟩) (n + 1) cp) ∧ TabS w' w.heap.size M T G (n + 1) 0
theorem table_any (A : Option Addr) (n cap : Nat) (c d : Nat → Int) (k : Int) (L M : Nat) (w : World) (hs : EOk n c d) (hk : JointOk k) (hL : 1 ≤ L ∧ L ≤ 405) (hM : M = L + 1) (hr : RdS w w.heap.size A n c d) :
    Calls Try.prog 167 #[.slice A n cap, .int .i64 k, .int .i64 (L : Int)] w (Tabled M n (TT (bF n c k) (qF n d) n) w) := by
  have hn6 := hs.1
  have hq60 := qF_60 hs
  have hxx := fun i (hi : i < n) => (hs.2 i hi).1
  have HXX := Lib.hid hxx
  have hbb := fun i (hi : i < n) => bF_eq hs hk hi
  have HBB := Lib.hid hbb
  have hqq := fun i (hi : i < n) => qF_eq hs hi
  have HQQ := Lib.hid hqq
  have hb1 := bF_one hs hk
  have HB1 := Lib.hid hb1
  have hTT := fun i a => FF_TT (bF n c k) (qF n d) n i a hn6 hq60
  have HTT := Lib.hid hTT
  have HQ60 := Lib.hid hq60
  have hend := TT_end (bF n c k) (qF n d) n
  have hstep := fun i a (hi : i < n) => TT_step (bF n c k) (qF n d) n i a hi
  have HEND := Lib.hid hend
  have HSTEP := Lib.hid hstep
  obtain ⟨b, hb⟩ : ∃ b, b = bF n c k := ⟨_, rfl⟩
  obtain ⟨q, hq⟩ : ∃ q, q = qF n d := ⟨_, rfl⟩
  rw [← hb, ← hq] at HTT HEND HSTEP ⊢
  rw [← hb] at HBB HB1
  rw [← hq] at HQQ HQ60
  obtain ⟨T, hT⟩ : ∃ T, T = TT b q n := ⟨_, rfl⟩
  rw [← hT] at HTT HEND HSTEP ⊢
  have HR := Lib.hid hr
  have HM := Lib.hid hM
  unfold JointOk at hk
  have hMi : (L : Int) < (M : Int) := by omega
  have hmk := make_i64 L M hM (by omega)
  have HMK := Lib.hid hmk
  clear hq60 hxx hbb hqq hb1 hTT hend hstep hb hq hT hr hM hs hmk
  have hmk := HMK.out
  go_enter Try.func167, Try.ntmps167
  go_wp2_with fail
  have hA := made_ar w M
  obtain ⟨W1, hW1⟩ : ∃ W1 : World, W1 = w.alloc (.cells (madeCells #[.int .i64 0] M) 2) := ⟨_, rfl⟩
  have B1 : Below w.heap.size w W1 := by rw [hW1]; exact al (Below.refl _ _) _
  have s1 : W1.heap.size = w.heap.size + 1 := by rw [hW1]; simp
  rw [← hW1] at hA ⊢
  have HA1 := Lib.hid hA
  clear hW1 hA hmk
  go_loopw [8] (fun t8 wr => ∃ a : Nat, 1 ≤ a ∧ a ≤ M ∧ t8 = .int .i64 a ∧ Below w.heap.size w wr ∧ wr.heap.size = w.heap.size + 1 ∧ Ar wr w.heap.size M (fun j => if j = 0 then 0 else if j < a then -1 else 0)) (fun t8 wr => M - (intOf t8).toNat)
  case atStart => exact ⟨1, Nat.le_refl _, by have := HM.out; omega, rfl, B1, s1, HA1.out.congr fun j _ => by
    by_cases h : j = 0
    · rw [if_pos h]
    · rw [if_neg h, if_neg (by omega)]⟩
  case round =>
    clear B1 HA1
    obtain ⟨a, ha1, haM, rfl, B, sz, hA⟩ := hrel
    obtain ⟨wo, rfl⟩ : ∃ wo : World, wo = wr := ⟨_, rfl⟩
    have HB := Lib.hid B
    have HA := Lib.hid hA
    have HSZ := Lib.hid sz
    clear B hA sz s1
    have hML := HM.out
    by_cases hlt : a < M
    · have hal : (a : Int) ≤ (L : Int) := by omega
      have ham : (a : Int) < (M : Int) := by omega
      have HML := Lib.hid hML
      clear hML
      obtain ⟨q0, f0⟩ := HA.out.at hlt
      go_wp2_with fail
      refine ⟨⟨a + 1, by omega, by omega, by first | go_num | simp, HB.out.setCell (p := ⟨w.heap.size, a, none⟩) (Nat.le_refl _) _, by simpa using HSZ.out, (HA.out.set hlt (-1)).congr fun j hj => ?_⟩, by simp [intOf]; omega⟩
      by_cases e : j = a
      · subst e
        rw [if_pos rfl, if_neg (by omega), if_pos (by omega)]
      · rw [if_neg e]
        by_cases e0 : j = 0
        · rw [if_pos e0, if_pos e0]
        · rw [if_neg e0, if_neg e0]
          by_cases e1 : j < a
          · rw [if_pos e1, if_pos (by omega)]
          · rw [if_neg e1, if_neg (by omega)]
    · obtain rfl : M = a := by omega
      have hal : ¬ (M : Int) ≤ (L : Int) := by omega
      have HML := Lib.hid hML
      have hA2 : Ar wo w.heap.size M (T n) := HA.out.congr fun j hj => by
        rw [HEND.out j]
        by_cases e : j = 0
        · rw [if_pos e, if_pos e]
        · rw [if_neg e, if_neg e, if_pos hj]
      have HA2 := Lib.hid hA2
      clear hML hA2
      go_wp2_with fail
      obtain ⟨W2, hW2⟩ : ∃ W2 : World, W2 = wo.alloc (.cells #[.slice (some ⟨w.heap.size, 0, none⟩) M M] 29) := ⟨_, rfl⟩
      have B2 : Below w.heap.size w W2 := by rw [hW2]; exact al HB.out _
      have hT2 : TabS W2 w.heap.size M T wo.heap.size 1 n := by
        have hz := HSZ.out
        refine ⟨⟨by omega, by rw [hW2]; simp⟩, fun _ => w.heap.size, fun j hj => ?_⟩
        obtain rfl : j = 0 := by omega
        refine ⟨?_, Nat.le_refl _, ?_⟩
        · rw [hW2, cell_of_row _ _ 0 _ _ _ (heap_alloc_new wo _)]; rfl
        · rw [hW2]; exact HA2.out.alloc _
      rw [← hW2]
      have HT2 := Lib.hid hT2
      have HB2 := Lib.hid B2
      clear hW2 hT2 B2
      go_loopw [9, 10] (fun t9 t10 wr => ∃ i : Nat, i ≤ n ∧ t10 = .int .i64 ((i : Int) - 1) ∧ Below w.heap.size w wr ∧ ∃ G cp, t9 = .slice (some ⟨G, 0, none⟩) (n - i + 1) cp ∧ TabS wr w.heap.size M T G (n - i + 1) i) (fun t9 t10 wr => (intOf t10 + 1).toNat)
      case atStart => exact ⟨n, Nat.le_refl _, by first | rfl | simp, HB2.out, _, _, by rw [Nat.sub_self], by rw [Nat.sub_self]; exact HT2.out⟩
      case round =>
        clear HB2 HT2 HA2 HB HSZ HA
        obtain ⟨i, hi, rfl, B, G, cp, rfl, hT⟩ := hrel
        obtain ⟨wo, rfl⟩ : ∃ wo : World, wo = wr := ⟨_, rfl⟩
        have HB := Lib.hid B
        have HT := Lib.hid hT
        clear B hT
        by_cases hi0 : i = 0
        · subst hi0
          have D : decide (0 ≤ ((0 : Nat) : Int) - 1) = false := by decide
          have D2 : ¬ (0 ≤ ((0 : Nat) : Int) - 1) := by decide
          go_wp2_with fail
          go_ret
          exact ⟨HB.out, G, cp, rfl, HT.out⟩
        · obtain ⟨i', rfl⟩ : ∃ i', i = i' + 1 := ⟨i - 1, by omega⟩
          have hii : ((i' + 1 : Nat) : Int) - 1 = (i' : Int) := by omega
          rw [hii]
          have hlt : i' < n := by omega
          have hi0' : 0 ≤ (i' : Int) := by omega
          have hlti : (i' : Int) < (n : Int) := by omega
          obtain ⟨bl, off, rfl, hbl, c0, c1⟩ := (HR.out.below HB.out).at hlt
          obtain ⟨x, ex⟩ : ∃ x, x = c i' := ⟨_, rfl⟩
          have ecnt := HQQ.out i' hlt
          obtain ⟨eby, hby2⟩ := HBB.out i' hlt
          have hby1 := HB1.out i'
          have hq60 := HQ60.out i'
          have hx := HXX.out i' hlt
          have hst := fun a => HSTEP.out i' a hlt
          obtain ⟨by', hbb⟩ : ∃ by', by' = b i' := ⟨_, rfl⟩
          obtain ⟨cnt, hcc⟩ : ∃ cnt, cnt = q i' := ⟨_, rfl⟩
          rw [← hbb] at eby hby2 hby1
          rw [← hcc] at ecnt hq60
          simp only [← hbb, ← hcc] at hst
          rw [← ex] at c0 eby hx
          rw [ecnt] at c1
          have HST := Lib.hid hst
          have HX2 := Lib.hid (And.intro ex ecnt)
          clear hst ecnt ex hbb hcc hii hi0
          have hmk := HMK.out
          go_wp2_with fail
          obtain ⟨g2, hg2⟩ : ∃ g2, g2 = wo.heap.size := ⟨_, rfl⟩
          have hA2 := made_ar wo M
          obtain ⟨V, hV⟩ : ∃ V : World, V = wo.alloc (.cells (madeCells #[.int .i64 0] M) 2) := ⟨_, rfl⟩
          have BV : Below g2 wo V := by rw [hV, hg2]; exact al (Below.refl _ _) _
          have hgw : w.heap.size ≤ g2 := by rw [hg2]; exact HB.out.size
          rw [← hV, ← hg2] at hA2
          rw [← hV, ← hg2]
          have HG2 := Lib.hid hg2
          have HA2 := Lib.hid hA2
          have HBV := Lib.hid BV
          clear hV hg2 hA2 BV hmk c0 c1
          go_loopw [13, 14, 15] (fun t13 t14 t15 wr => ∃ a : Nat, a ≤ M ∧ t13 = .int .i64 a ∧ Below g2 wo wr ∧ Ar wr g2 M (fun j => if j < a then T i' j else 0)) (fun t13 t14 t15 wr => M - (intOf t13).toNat)
          case atStart => exact ⟨0, Nat.zero_le _, rfl, HBV.out, HA2.out.congr fun j _ => by rw [if_neg (by omega)]⟩
          case round =>
            clear HBV HA2
            obtain ⟨a, ha, rfl, B, hA⟩ := hrel
            obtain ⟨wp, rfl⟩ : ∃ wp : World, wp = wr := ⟨_, rfl⟩
            have HBp := Lib.hid B
            have HAp := Lib.hid hA
            clear B hA
            have hML := HM.out
            by_cases hlta : a < M
            · have hal : (a : Int) ≤ (L : Int) := by omega
              have ham : (a : Int) < (M : Int) := by omega
              have ha405 : a ≤ 405 := by omega
              have HML := Lib.hid hML
              clear hML
              obtain ⟨q0, f0⟩ := HAp.out.at hlta
              go_wp2_with fail
              have hAq : Ar (wp.setCell ⟨g2, a, none⟩ (.int .i64 (-1))) g2 M (fun j => if j < a then T i' j else if j = a then tS (T (i' + 1)) by' a 0 else 0) := (HAp.out.set hlta (-1)).congr fun j hj => by
                by_cases e : j = a
                · subst e; rw [if_pos rfl, if_neg (by omega), if_pos rfl]; rfl
                · rw [if_neg e, if_neg e]
              have hBq : Below g2 wo (wp.setCell ⟨g2, a, none⟩ (.int .i64 (-1))) := HBp.out.setCell (p := ⟨g2, a, none⟩) (Nat.le_refl _) _
              obtain ⟨V2, hV2⟩ : ∃ V2 : World, V2 = wp.setCell ⟨g2, a, none⟩ (.int .i64 (-1)) := ⟨_, rfl⟩
              rw [← hV2] at hAq hBq ⊢
              have HAq := Lib.hid hAq
              have HBq := Lib.hid hBq
              clear hV2 hAq hBq q0 f0 HAp HBp
              go_loopw [14, 15] (fun t14 t15 wr => ∃ q' : Nat, q' ≤ fitN by' cnt a ∧ t14 = .int .i64 q' ∧ Below g2 wo wr ∧ Ar wr g2 M (fun j => if j < a then T i' j else if j = a then tS (T (i' + 1)) by' a q' else 0)) (fun t14 t15 wr => fitN by' cnt a - (intOf t14).toNat)
              case atStart => exact ⟨0, Nat.zero_le _, rfl, HBq.out, HAq.out⟩
              case round =>
                clear HAq HBq
                obtain ⟨q', hq', rfl, B, hA⟩ := hrel
                obtain ⟨wq, rfl⟩ : ∃ wq : World, wq = wr := ⟨_, rfl⟩
                have HBq := Lib.hid B
                have HAq := Lib.hid hA
                clear B hA
                have hBw := HB.out.trans (HBq.out.mono hgw)
                obtain ⟨bl', off', e', _, c0, c1⟩ := (HR.out.below hBw).at hlt
                injection e' with e'
                injection e' with eb eo _
                subst eb eo
                rw [HX2.out.2] at c1
                have HBw := Lib.hid hBw
                clear hBw
                by_cases hqf : q' < fitN by' cnt a
                · have h1 := (fitN_le (show 0 < by' by omega) hqf).1
                  have h2 := (fitN_le (show 0 < by' by omega) hqf).2
                  obtain ⟨p, hp⟩ : ∃ p : Nat, (q' : Int) * (by' : Int) = (p : Int) := ⟨q' * by', by rw [Int.natCast_mul]⟩
                  have hpn : q' * by' = p := by rw [← Int.natCast_mul] at hp; exact Int.ofNat.inj hp
                  rw [hpn] at h2
                  have dq : (q' : Int) ≤ (cnt : Int) := by omega
                  have dp : (p : Int) ≤ (a : Int) := by omega
                  have n1 : (a : Int) - (p : Int) < (M : Int) := by omega
                  have n0 : 0 ≤ (a : Int) - (p : Int) := by omega
                  have t1 : ((a : Int) - (p : Int)).toNat = a - p := by omega
                  have hTq := HT.out.below HBq.out (by rw [HG2.out]; exact Nat.le_refl _)
                  obtain ⟨_, r, hr⟩ := hTq
                  obtain ⟨cG, _, hA0⟩ := hr 0 (by omega)
                  have cr := (hA0.at (show a - p < M by omega)).1
                  obtain ⟨ct, ft⟩ := HAq.out.at hlta
                  rw [if_neg (by omega), if_pos rfl] at ct
                  rw [Nat.add_zero] at cr
                  obtain ⟨r0, hr0⟩ : ∃ r0, r0 = r 0 := ⟨_, rfl⟩
                  rw [← hr0] at cG cr
                  obtain ⟨u, hu⟩ : ∃ u, u = T (i' + 1) (a - p) := ⟨_, rfl⟩
                  obtain ⟨t, ht⟩ : ∃ t, t = tS (T (i' + 1)) by' a q' := ⟨_, rfl⟩
                  have hub := (HTT.out (i' + 1) (a - p)).2
                  have es : tS (T (i' + 1)) by' a (q' + 1) = if 0 ≤ u ∧ (t < 0 ∨ u + q' < t) then u + q' else t := by rw [tS, hpn, ← hu, ← ht]
                  rw [← hu] at cr hub
                  rw [← ht] at ct
                  have HES := Lib.hid es
                  have HTE := Lib.hid ht
                  have hq61 : q' ≤ 61 := by unfold fitN at hqf; omega
                  have hmn : 0 < n - (i' + 1) + 1 := by omega
                  have hmn2 : (0 : Int) < ((n - (i' + 1) + 1 : Nat) : Int) := by omega
                  clear hr hr0 hA0 hu ht es hpn
                  have hsame : (¬ (0 ≤ u ∧ (t < 0 ∨ u + q' < t))) → Ar wq g2 M (fun j => if j < a then T i' j else if j = a then tS (T (i' + 1)) by' a (q' + 1) else 0) := fun hC => HAq.out.congr fun j hj => by
                    by_cases e : j = a
                    · subst e; rw [if_neg (by omega), if_pos rfl, if_neg (by omega), if_pos rfl, HES.out, if_neg hC, HTE.out]
                    · rw [if_neg e, if_neg e]
                  have hstore : (0 ≤ u ∧ (t < 0 ∨ u + q' < t)) → Ar (wq.setCell ⟨g2, a, none⟩ (.int .i64 (u + q'))) g2 M (fun j => if j < a then T i' j else if j = a then tS (T (i' + 1)) by' a (q' + 1) else 0) := fun hC => (HAq.out.set hlta (u + q')).congr fun j hj => by
                    by_cases e : j = a
                    · subst e; rw [if_pos rfl, if_neg (by omega), if_pos rfl, HES.out, if_pos hC]
                    · rw [if_neg e, if_neg e, if_neg e]
                  have HSA := Lib.hid hsame
                  have HSR := Lib.hid hstore
                  clear hsame hstore
                  by_cases hu0 : 0 ≤ u
                  · by_cases ht0 : t < 0
                    · have D1 : decide (t < 0) = true := by simpa using ht0
                      go_wp2_with fail
                      exact ⟨⟨q' + 1, by omega, by first | go_num | simp, HBq.out.setCell (p := ⟨g2, a, none⟩) (Nat.le_refl _) _, HSR.out ⟨hu0, .inl ht0⟩⟩, by simp [intOf]; omega⟩
                    · have D1 : decide (t < 0) = false := by simpa using ht0
                      by_cases hlt3 : u + q' < t
                      · have D2 : decide (u + (q' : Int) < t) = true := by simpa using hlt3
                        go_wp2_with fail
                        exact ⟨⟨q' + 1, by omega, by first | go_num | simp, HBq.out.setCell (p := ⟨g2, a, none⟩) (Nat.le_refl _) _, HSR.out ⟨hu0, .inr hlt3⟩⟩, by simp [intOf]; omega⟩
                      · have D2 : decide (u + (q' : Int) < t) = false := by simpa using hlt3
                        go_wp2_with fail
                        exact ⟨⟨q' + 1, by omega, by first | go_num | simp, HBq.out, HSA.out (fun h => h.2.elim ht0 hlt3)⟩, by simp [intOf]; omega⟩
                  · have D0 : decide (0 ≤ u) = false := by simpa using hu0
                    go_wp2_with fail
                    exact ⟨⟨q' + 1, by omega, by first | go_num | simp, HBq.out, HSA.out (fun h => hu0 h.1)⟩, by simp [intOf]; omega⟩
                · obtain rfl : q' = fitN by' cnt a := by omega
                  have hfin : Ar wq g2 M (fun j => if j < a + 1 then T i' j else 0) := HAq.out.congr fun j hj => by
                    by_cases e : j = a
                    · subst e
                      rw [if_neg (by omega), if_pos rfl, if_pos (by omega), HST.out]
                    · by_cases e2 : j < a
                      · rw [if_pos e2, if_pos (by omega)]
                      · rw [if_neg e2, if_neg e, if_neg (by omega)]
                  have HF := Lib.hid hfin
                  clear hfin
                  obtain ⟨z, hqq⟩ : ∃ z, z = fitN by' cnt a := ⟨_, rfl⟩
                  rw [← hqq]
                  by_cases hqc : z ≤ cnt
                  · have hgt : ¬ z * by' ≤ a := fun h => by have := lt_fitN (cnt := cnt) (show 0 < by' by omega) hqc h; omega
                    obtain ⟨p, hp⟩ : ∃ p : Nat, (z : Int) * (by' : Int) = (p : Int) := ⟨z * by', by rw [Int.natCast_mul]⟩
                    have hpn : z * by' = p := by rw [← Int.natCast_mul] at hp; exact Int.ofNat.inj hp
                    have hple : p ≤ 60 * 25 := by rw [← hpn]; exact Nat.mul_le_mul (by omega) hby2
                    rw [hpn] at hgt
                    have dq : (z : Int) ≤ (cnt : Int) := by omega
                    have dp : ¬ (p : Int) ≤ (a : Int) := by omega
                    have dp' : decide ((p : Int) ≤ (a : Int)) = false := by simpa using dp
                    have HQ := Lib.hid hqq
                    clear hqq hpn
                    go_wp2_with fail
                    exact ⟨⟨a + 1, by omega, by first | go_num | simp, HBq.out, HF.out⟩, by simp [intOf]; omega⟩
                  · have dq : ¬ (z : Int) ≤ (cnt : Int) := by omega
                    have dq' : decide ((z : Int) ≤ (cnt : Int)) = false := by simpa using dq
                    have HQ := Lib.hid hqq
                    clear hqq
                    go_wp2_with fail
                    exact ⟨⟨a + 1, by omega, by first | go_num | simp, HBq.out, HF.out⟩, by simp [intOf]; omega⟩
            · obtain rfl : M = a := by omega
              have hal : ¬ (M : Int) ≤ (L : Int) := by omega
              have hal' : decide ((M : Int) ≤ (L : Int)) = false := by simpa using hal
              have HML := Lib.hid hML
              clear hML
              have hAf : Ar wp g2 M (T i') := HAp.out.congr fun j hj => by rw [if_pos hj]
              have HAf := Lib.hid hAf
              have hTp := HT.out.below HBp.out (by rw [HG2.out]; exact Nat.le_refl _)
              obtain ⟨⟨hG1, hG2⟩, r, hr⟩ := hTp
              obtain ⟨i0, hi, hz0, hz1, hz2⟩ := info_parts infoRow
              have hbz := HBp.out.size
              have hgz : g2 ≤ wo.heap.size := by rw [HG2.out]; exact Nat.le_refl _
              have own0 : (wp.alloc (.cells #[.slice (some ⟨g2, 0, none⟩) M M] 29)).ownsRow w.heap.size 29 1 (.slice (some ⟨wp.heap.size, 0, none⟩) 1 1) 1 [.slice (some ⟨g2, 0, none⟩) M M] :=
                ⟨rfl, .inr ⟨wp.heap.size, 1, _, rfl, by omega, heap_alloc_new wp _, Nat.le_refl _, by unfold maxLen; omega, rfl, rfl⟩⟩
              obtain ⟨m, hm⟩ : ∃ m, m = n - (i' + 1) + 1 := ⟨_, rfl⟩
              rw [← hm] at hr ⊢
              have hm8 : 1 ≤ m ∧ m ≤ 7 := by omega
              have hnews : ∀ j u, ((List.range m).map fun j => (Value.slice (some ⟨r j, 0, none⟩) M M))[j]? = some u → (wp.alloc (.cells #[.slice (some ⟨g2, 0, none⟩) M M] 29)).cell? ((⟨G, 0, none⟩ : Addr).add j) = some u := by
                intro j u hu
                rw [List.getElem?_map] at hu
                by_cases hj : j < m
                · rw [List.getElem?_range hj] at hu
                  injection hu with hu
                  rw [← hu, Go.WideShapes.add_plain, Nat.zero_add]
                  exact (World.cell?_of_block (w := wp) (Below.heap_alloc wp _ G hG2)).trans (hr j hj).1
                · rw [List.getElem?_eq_none (by rw [List.length_range]; omega)] at hu
                  cases hu
              have h1c : ∀ u ∈ ((List.range m).map fun j => (Value.slice (some ⟨r j, 0, none⟩) M M)), u.oneCell' = true := by
                intro u hu
                obtain ⟨j, _, rfl⟩ := List.mem_map.1 hu
                rfl
              have HOW := Lib.hid own0
              have HNW := Lib.hid hnews
              have H1C := Lib.hid h1c
              have HRR := Lib.hid hr
              have HMM := Lib.hid hm
              clear own0 hnews h1c hr hm
              go_wp2_with (at_builtin; refine wpList_append_own _ rfl _ _ 45 rfl w.heap.size 29 i0 (.slice none 0 0) 1 24 Try.underlying45 hi hz0 hz1 hz2 rfl (by decide) _ _ _ rfl HOW.out ⟨G, 0, none⟩ m cp ((List.range m).map fun j => (Value.slice (some ⟨r j, 0, none⟩) M M)) rfl (by simp) HNW.out H1C.out (by unfold maxLen; omega) (by omega) (by simp; omega) ?_; intro v' w1 own' hgr _)
              have hgr2 : (wp.alloc (.cells #[.slice (some ⟨g2, 0, none⟩) M M] 29)).grownBy w1 (some wp.heap.size) := hgr
              clear hgr
              have B7 : Below wp.heap.size wp w1 := (al (Below.refl _ _ : Below wp.heap.size wp wp) _).grown hgr2 (by simp) (fun k e => by
                injection e with e
                omega)
              have hB7w : Below w.heap.size w w1 := (HB.out.trans (HBp.out.mono hgw)).trans (B7.mono (by omega))
              have hmn : n - i' + 1 = 1 + m := by have := HMM.out; omega
              rcases own'.2 with ⟨_, h0⟩ | ⟨g, cap', cur, rfl, hbg, hgg, _⟩
              · omega
              have hcells := World.ownsRow.cells own' rfl
              have hT7 : TabS w1 w.heap.size M T g (1 + m) i' := by
                refine ⟨⟨hbg, (Array.getElem?_eq_some_iff.1 hgg).1⟩, fun j => if j = 0 then g2 else r (j - 1), fun j hj => ?_⟩
                have hc : ∀ u, ([Value.slice (some ⟨g2, 0, none⟩) M M] ++ (List.range m).map fun j => (Value.slice (some ⟨r j, 0, none⟩) M M))[j]? = some u → w1.cell? ⟨g, j, none⟩ = some u := fun u hu => by
                  have := hcells j u hu
                  rwa [Go.WideShapes.add_plain, Nat.zero_add] at this
                dsimp only
                by_cases e : j = 0
                · subst e
                  refine ⟨hc _ rfl, hgw, ?_⟩
                  exact HAf.out.kept B7.size (B7.block g2 HAf.out.1)
                · obtain ⟨j', rfl⟩ : ∃ j', j = j' + 1 := ⟨j - 1, by omega⟩
                  obtain ⟨a1, a2, a3⟩ := HRR.out j' (by omega)
                  rw [if_neg e, Nat.add_sub_cancel]
                  refine ⟨hc _ ?_, a2, ?_⟩
                  · rw [List.getElem?_append_right (by simp)]
                    simp only [List.length_singleton, Nat.add_sub_cancel]
                    rw [List.getElem?_map, List.getElem?_range (by omega)]
                    rfl
                  · have := a3.kept B7.size (B7.block (r j') a3.1)
                    rwa [show i' + 1 + j' = i' + (j' + 1) by omega] at this
              refine ⟨⟨i', by omega, rfl, hB7w, g, cap', by rw [hmn], by rw [hmn]; exact hT7⟩, by simp [intOf]⟩
end Go.Proofs.Ytjeccdmhpbaabaa
