/-
  The contract of spec.l03Fill. Conditions stand at each.
-/
import Derived.Test.YtjeccdmhpbaabaaRows
import Derived.StillTailTactics
import Derived.Test.YtjeccdmhpbaabaaTabS
import Derived.Test.YtjeccdmhpbaabaaFillI
namespace Go.Proofs.Ytjeccdmhpbaabaa
open Go Go.ChangeShapes Go.WideShapes Go.ChangeAt Go.RowKit
set_option linter.unusedVariables false
set_option linter.unusedSimpArgs false
set_option maxRecDepth 100000
set_option maxHeartbeats 2000000

def Filled (t : Int) (K : List Int) (w : World) (e : Ending) (w' : World) : Prop :=
  Below w.heap.size w w' ∧ ((t < 0 ∧ ∃ v, e = .returned (.tuple #[v, .int .i64 0, .bool false]) ∧ OwnI w' w.heap.size v []) ∨ (0 ≤ t ∧ ∃ v, e = .returned (.tuple #[v, .int .i64 t, .bool true]) ∧ OwnI w' w.heap.size v K))

theorem l03Fill_any (A : Option Addr) (n cap : Nat) (c d : Nat → Int) (l k : Int) (L : Nat) (w : World) (hs : EOk n c d) (hk : JointOk k) (hl : LongOk l) (hL : l + k = (L : Int)) (hr : RdS w w.heap.size A n c d) :
    Calls Try.prog 124 #[.slice A n cap, .int .i64 l, .int .i64 k] w (Filled (TT (bF n c k) (qF n d) n 0 L) (kL (bF n c k) (qF n d) n L n) w) := by
  have hn6 := hs.1
  have hq60 := qF_60 hs
  have HQ60 := Lib.hid hq60
  have HS := Lib.hid hs
  have HK := Lib.hid hk
  have hL405 : 1 ≤ L ∧ L ≤ 405 := by unfold JointOk at hk; unfold LongOk at hl; omega
  have hTT := fun i a => FF_TT (bF n c k) (qF n d) n i a hn6 hq60
  have HTT := Lib.hid hTT
  have hbb := fun i (hi : i < n) => bF_eq hs hk hi
  have HBB := Lib.hid hbb
  have hqq := fun i (hi : i < n) => qF_eq hs hi
  have HQQ := Lib.hid hqq
  have hxx := fun i (hi : i < n) => (hs.2 i hi).1
  have HXX := Lib.hid hxx
  have hb1 := bF_one hs hk
  have HB1 := Lib.hid hb1
  obtain ⟨M, hM⟩ : ∃ M, M = L + 1 := ⟨_, rfl⟩
  have hLM : (L : Int) < (M : Int) := by omega
  have hLM' : L < M := by omega
  have htab := fun W (R : RdS W W.heap.size A n c d) => table_any A n cap c d k L M W hs hk hL405 hM R
  have HTB := Lib.hid htab
  have HM := Lib.hid hM
  have HR := Lib.hid hr
  have HL := Lib.hid hL
  unfold JointOk at hk
  unfold LongOk at hl
  obtain ⟨b, hb⟩ : ∃ b, b = bF n c k := ⟨_, rfl⟩
  obtain ⟨q, hq⟩ : ∃ q, q = qF n d := ⟨_, rfl⟩
  rw [← hb, ← hq] at HTT HTB ⊢
  rw [← hb] at HBB HB1
  rw [← hq] at HQQ HQ60
  clear hq60 hTT hbb hqq hxx hb1 htab hM hr hb hq hs
  go_enter Try.func124, Try.ntmps124
  go_wp2_with fail
  refine (HTB.out w HR.out).mono ?_
  rintro e wt ⟨hb1, G, cp, rfl, hT⟩
  obtain ⟨⟨hG1, hG2⟩, r, hr⟩ := hT
  obtain ⟨cG, hrb, hA0⟩ := hr 0 (by omega)
  have cr := (hA0.at hLM').1
  rw [Nat.add_zero] at cr
  obtain ⟨r0, hr0⟩ : ∃ r0, r0 = r 0 := ⟨_, rfl⟩
  rw [← hr0] at cG cr
  obtain ⟨t, ht⟩ : ∃ t, t = TT b q n 0 L := ⟨_, rfl⟩
  rw [← ht] at cr ⊢
  have HR1 := Lib.hid hr
  have HT0 := Lib.hid ht
  have hn1 : (0 : Int) < ((n + 1 : Nat) : Int) := by omega
  have hn2 : 0 < n + 1 := by omega
  clear hr hA0 hr0 ht hL
  have B2 : Below w.heap.size w (wt.alloc (.cells #[] 2)) := al hb1 _
  have O2 : OwnI (wt.alloc (.cells #[] 2)) wt.heap.size (.slice (some ⟨wt.heap.size, 0, none⟩) 0 0) [] := OwnI.made wt (Nat.le_refl _)
  have hz1 := hb1.size
  by_cases ht0 : t < 0
  · have D : decide (t < 0) = true := by simpa using ht0
    go_wp2_with fail
    go_ret3
    exact ⟨B2, .inl ⟨by rw [← HT0.out]; exact ht0, _, rfl, O2.mono hz1⟩⟩
  have D : decide (t < 0) = false := by simpa using ht0
  go_wp2_with fail
  obtain ⟨W2, hW2⟩ : ∃ W2 : World, W2 = wt.alloc (.cells #[] 2) := ⟨_, rfl⟩
  have B12 : Below wt.heap.size wt W2 := by rw [hW2]; exact al (Below.refl _ _) _
  rw [← hW2] at O2 B2 ⊢
  have HO2 := Lib.hid O2
  have HB12 := Lib.hid B12
  have HB1w := Lib.hid hb1
  clear hW2 O2 B12 B2 hb1 cG cr
  go_loopw [9, 12, 13, 14, 15] (fun t9 t12 t13 t14 t15 wr => ∃ i : Nat, i ≤ n ∧ t13 = .int .i64 i ∧ t9 = .int .i64 (aN b q n L i) ∧ OwnI wr wt.heap.size t12 (kL b q n L i) ∧ Below wt.heap.size wt wr) (fun t9 t12 t13 t14 t15 wr => n - (intOf t13).toNat)
  case atStart => exact ⟨0, Nat.zero_le _, rfl, rfl, HO2.out, HB12.out⟩
  case round =>
    clear HO2 HB12
    obtain ⟨i, hi, rfl, rfl, hO, hB⟩ := hrel
    obtain ⟨wo, rfl⟩ : ∃ wo : World, wo = wr := ⟨_, rfl⟩
    obtain ⟨v0, rfl⟩ : ∃ v0 : Value, v0 = u12 := ⟨_, rfl⟩
    have HO := Lib.hid hO
    have HB := Lib.hid hB
    have HBw := Lib.hid (HB1w.out.trans (hB.mono hz1))
    clear hO hB
    by_cases hlt : i < n
    · have hlti : (i : Int) < (n : Int) := by omega
      have hok := aN_ok b q n L (by rw [← HT0.out]; omega) i (by omega)
      have hks := kOf_spec b q n i (aN b q n L i) hlt hok.1
      have hkn : kN b q n L i = kOf b q n i (aN b q n L i) := rfl
      have has : aN b q n L (i + 1) = aN b q n L i - kN b q n L i * b i := rfl
      obtain ⟨a, ha⟩ : ∃ a, a = aN b q n L i := ⟨_, rfl⟩
      obtain ⟨K, hKK⟩ : ∃ K, K = kN b q n L i := ⟨_, rfl⟩
      rw [← hkn, ← hKK, ← ha] at hks
      rw [← ha, ← hKK] at has
      rw [← ha] at hok
      obtain ⟨x, ex⟩ : ∃ x, x = c i := ⟨_, rfl⟩
      obtain ⟨eby, hby2⟩ := HBB.out i hlt
      have hby1 := HB1.out i
      have hq60 := HQ60.out i
      have hx := HXX.out i hlt
      obtain ⟨by', hbb⟩ : ∃ by', by' = b i := ⟨_, rfl⟩
      obtain ⟨cnt, hcc⟩ : ∃ cnt, cnt = q i := ⟨_, rfl⟩
      rw [← hbb] at hks has eby hby2 hby1
      rw [← hcc] at hks hq60
      rw [← ex] at eby hx
      have hKf := hks.1
      have hfit : fitN by' cnt a ≤ 61 := by unfold fitN; omega
      have hK61 : K < 61 := by omega
      have haL : a ≤ L := hok.2
      have HAS := Lib.hid has
      have HKS := Lib.hid hks
      have HBI := Lib.hid hbb
      have HKK := Lib.hid hKK
      have HA := Lib.hid ha
      have HX2 := Lib.hid ex
      rw [← ha]
      obtain ⟨bl, off, rfl, hbl, c0, c1⟩ := (HR.out.below HBw.out).at hlt
      rw [← ex] at c0
      clear has hks hKK ha hbb hcc ex hkn hok c1
      go_wp2_with fail
      clear c0 eby
      go_loopw [15] (fun t15 wr => ∃ j : Nat, j ≤ K ∧ t15 = .int .i64 j ∧ OwnI wr wt.heap.size v0 (kL b q n L i) ∧ Below wt.heap.size wt wr) (fun t15 wr => K + 1 - (intOf t15).toNat)
      case atStart => exact ⟨0, Nat.zero_le _, rfl, HO.out, HB.out⟩
      case round =>
        clear HO HB HBw
        obtain ⟨j, hj, rfl, hO, hB⟩ := hrel
        obtain ⟨wo, rfl⟩ : ∃ wo : World, wo = wr := ⟨_, rfl⟩
        have HO := Lib.hid hO
        have HB := Lib.hid hB
        have HBw := Lib.hid (HB1w.out.trans (hB.mono hz1))
        clear hO hB
        have hjf : j < fitN by' cnt a := by omega
        have h2 : j * by' ≤ a := (fitN_le (cnt := cnt) (show 0 < by' by omega) hjf).2
        obtain ⟨p, hp⟩ : ∃ p : Nat, (j : Int) * (by' : Int) = (p : Int) := ⟨j * by', by rw [Int.natCast_mul]⟩
        have hpn : j * by' = p := by rw [← Int.natCast_mul] at hp; exact Int.ofNat.inj hp
        rw [hpn] at h2
        have dp : ¬ (a : Int) < (p : Int) := by omega
        have dp' : decide ((a : Int) < (p : Int)) = false := by simpa using dp
        have dpN : decide (a < p) = false := by simp; omega
        have n1 : (a : Int) - (p : Int) < (M : Int) := by omega
        have n0 : 0 ≤ (a : Int) - (p : Int) := by omega
        have t1 : ((a : Int) - (p : Int)).toNat = a - p := by omega
        have vp : IntKind.i64.wrap (p : Int) = (p : Int) := IntWalk.i64_in _ (by omega)
        have v1 : IntKind.i64.wrap ((a : Int) - (p : Int)) = (a : Int) - (p : Int) := IntWalk.i64_in _ (by omega)
        have v2 : IntKind.i64.wrap ((i : Int) + 1) = (i : Int) + 1 := IntWalk.i64_in _ (by omega)
        have i0 : 0 ≤ (i : Int) + 1 := by omega
        have i1 : (i : Int) + 1 < ((n + 1 : Nat) : Int) := by omega
        have i2 : (i : Int) < ((n + 1 : Nat) : Int) := by omega
        have i3 : ((i : Int) + 1).toNat = i + 1 := by omega
        have aM : (a : Int) < (M : Int) := by omega
        obtain ⟨g1, _, A1⟩ := HR1.out i (by omega)
        obtain ⟨g2, _, A2⟩ := HR1.out (i + 1) (by omega)
        have k1 := (HB.out.cell (p := ⟨G, i, none⟩) hG2).trans g1
        have k2 := (HB.out.cell (p := ⟨G, i + 1, none⟩) hG2).trans g2
        have l1 := ((A1.kept HB.out.size (HB.out.block _ A1.1)).at (show a < M by omega)).1
        have l2 := ((A2.kept HB.out.size (HB.out.block _ A2.1)).at (show a - p < M by omega)).1
        rw [Nat.zero_add] at l1 l2
        have hgd : goodK b q n i a j ↔ (0 ≤ TT b q n (i + 1) (a - p) ∧ TT b q n (i + 1) (a - p) + (j : Int) = TT b q n i a) := by
          unfold goodK
          rw [← HBI.out, hpn]
        obtain ⟨ri, hri⟩ : ∃ ri, ri = r i := ⟨_, rfl⟩
        obtain ⟨rj, hrj⟩ : ∃ rj, rj = r (i + 1) := ⟨_, rfl⟩
        obtain ⟨U, hU⟩ : ∃ U, U = TT b q n i a := ⟨_, rfl⟩
        obtain ⟨u, hu⟩ : ∃ u, u = TT b q n (i + 1) (a - p) := ⟨_, rfl⟩
        have hub := (HTT.out (i + 1) (a - p)).2
        rw [← hu, ← hU] at hgd
        rw [← hu] at hub
        rw [← hri] at k1 l1
        rw [← hrj] at k2 l2
        rw [← hU] at l1
        rw [← hu] at l2
        have HGJ := Lib.hid hgd
        have v3 : IntKind.i64.wrap (u + (j : Int)) = u + (j : Int) := IntWalk.i64_in _ (by omega)
        have HP := Lib.hid hpn
        have hj61 : j ≤ 61 := by omega
        clear g1 g2 A1 A2 hri hrj hU hu hgd hpn
        by_cases hjK : j < K
        · have hng := HKS.out.2.2 j hjK
          have hng2 : ¬ (0 ≤ u ∧ u + (j : Int) = U) := fun h => hng (HGJ.out.2 h)
          by_cases hu0 : u < 0
          · have D1 : decide (u < 0) = true := by simpa using hu0
            clear hng hng2
            go_wp2_with fail
            go_quiet (fail)
            go_wp2_with fail
            exact ⟨⟨j + 1, by omega, by first | go_num | simp, HO.out.drewN _, below_drewN' HB.out _⟩, by simp [intOf]; omega⟩
          · have D1 : decide (u < 0) = false := by simpa using hu0
            have D2 : (u + (j : Int) != U) = true := by
              have : u + (j : Int) ≠ U := fun e => hng2 ⟨by omega, e⟩
              simpa using this
            clear hng hng2
            go_wp2_with fail
            go_quiet (fail)
            go_wp2_with fail
            exact ⟨⟨j + 1, by omega, by first | go_num | simp, HO.out.drewN _, below_drewN' HB.out _⟩, by simp [intOf]; omega⟩
        · obtain rfl : j = K := by omega
          have hgk := HGJ.out.1 HKS.out.2.1
          have D1 : decide (u < 0) = false := by simp; omega
          have D2 : (u + (j : Int) != U) = false := by simp; exact hgk.2
          clear hgk
          go_wp2_with fail
          go_quiet (fail)
          have hON : OwnI (wo.drewN nq) wt.heap.size v0 (kL b q n L i) := HO.out.drewN _
          have hBN : Below wt.heap.size wt (wo.drewN nq) := below_drewN' HB.out _
          obtain ⟨wn, hwn⟩ : ∃ wn, wn = wo.drewN nq := ⟨_, rfl⟩
          rw [← hwn] at hON hBN ⊢
          have HON := Lib.hid hON
          have HBN := Lib.hid hBN
          clear hwn hON hBN k1 k2 l1 l2 D2
          obtain ⟨i0, hi, hz0, hz1, hz2⟩ := info_parts infoI64
          have hkl := kL_length b q n L i
          have hbz := HBN.out.size
          go_wp2_with (at_builtin; refine wpList_append_own _ rfl _ _ 29 rfl wt.heap.size 2 i0 (.int .i64 0) 1 8 Try.underlying29 hi hz0 hz1 hz2 rfl (by decide) _ _ _ rfl (World.ownsRow.alloc HON.out _) ⟨wn.heap.size, 0, none⟩ 1 1 [.int .i64 (j : Int)] rfl rfl (ncells wn #[.int .i64 (j : Int)] 2) one64 (by unfold maxLen; omega) (by omega) (by simp; omega) ?_; intro v' w1 own' hgr _)
          have B7 : Below wt.heap.size wt w1 := (HBN.out.alloc hbz _).grown hgr (by simp; omega) (fun k e => (HON.out.lt k e).1)
          have O7 : OwnI w1 wt.heap.size v' (kL b q n L (i + 1)) := by
            rw [kL_succ, ← HKK.out]
            exact OwnI.snoc own'
          have hres : (aN b q n L (i + 1) : Int) = (a : Int) - (p : Int) := by rw [HAS.out, HP.out]; omega
          clear own' hgr
          exact ⟨⟨i + 1, by omega, by first | go_num | simp, by rw [hres], O7, B7⟩, by simp [intOf]; omega⟩
    · obtain rfl : i = n := by omega
      have hlti : ¬ (i : Int) < (i : Int) := by omega
      go_wp2_with fail
      go_ret3
      exact ⟨HBw.out, .inr ⟨by rw [← HT0.out]; omega, v0, by rw [← HT0.out]; rfl, HO.out.mono hz1⟩⟩
end Go.Proofs.Ytjeccdmhpbaabaa
