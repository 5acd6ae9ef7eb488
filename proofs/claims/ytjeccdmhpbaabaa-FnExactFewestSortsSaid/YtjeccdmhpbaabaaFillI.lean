/-
  The contract of impl.fillingOf. Conditions stand at each.
-/
import Derived.Test.YtjeccdmhpbaabaaRows
import Derived.Test.YtjeccdmhpbaabaaFewI
namespace Go.Proofs.Ytjeccdmhpbaabaa
open Go Go.ChangeShapes Go.WideShapes Go.ChangeAt Go.RowKit
set_option linter.unusedVariables false
set_option linter.unusedSimpArgs false
set_option maxRecDepth 100000
set_option maxHeartbeats 2000000

/-- the counts that are taken of the first sorts. -/
noncomputable def kL (b q : Nat → Nat) (n L m : Nat) : List Int := (List.range m).map fun j => (kN b q n L j : Int)
theorem kL_length (b q : Nat → Nat) (n L m : Nat) : (kL b q n L m).length = m := by simp [kL]
theorem kL_succ (b q : Nat → Nat) (n L m : Nat) : kL b q n L (m + 1) = kL b q n L m ++ [(kN b q n L m : Int)] := by
  unfold kL
  rw [List.range_succ, List.map_append]
  rfl
theorem OwnI.kt {w w' : World} {N tb base : Nat} {v : Value} {L : List Int} (h : OwnI w base v L) (hk : KT N tb w w') (hb : tb < base) : OwnI w' base v L :=
  h.far fun j h1 h2 => hk.2 j h2 (by omega)
theorem KT.grown {N tb : Nat} {w w' : World} {v : Value} {base : Nat} (hg : w.grownBy w' v.ownBlock) (hlo : ∀ j, v.ownBlock = some j → base ≤ j) (hb : tb < base) (hs : base ≤ w.heap.size) : Below base w w' :=
  (Below.refl _ _).grown hg hs hlo

theorem FB.belowN {N lb tb jb fb : Nat} {A : Option Addr} {n cap : Nat} {c d : Nat → Int} {k : Int} {W W' : World} (h : FB N lb tb jb fb A n cap c d k W) (hk : Below N W W') : FB N lb tb jb fb A n cap c d k W' := by
  obtain ⟨⟨h0, h00⟩, ⟨a1, a2, a3⟩, ⟨b1, b2, b3⟩, ⟨c1, c2, c3⟩, h4⟩ := h
  refine ⟨⟨Nat.le_trans h0 hk.size, h00⟩, ⟨a1, a2, (hk.cell (p := ⟨lb, 0, none⟩) a1).trans a3⟩, ⟨b1, b2, (hk.cell (p := ⟨jb, 0, none⟩) b1).trans b3⟩, ⟨c1, c2, (hk.cell (p := ⟨fb, 0, none⟩) c1).trans c3⟩, fun hn => ?_⟩
  obtain ⟨bl, off, e, d1, d2, d3⟩ := h4 hn
  exact ⟨bl, off, e, d1, d2, fun j hj => ⟨(hk.cell (p := ⟨bl, off + j * 2, none⟩) d1).trans (d3 j hj).1, (hk.cell (p := ⟨bl, off + j * 2 + 1, none⟩) d1).trans (d3 j hj).2⟩⟩
def Filling (t : Int) (K : List Int) (w : World) (e : Ending) (w' : World) : Prop :=
  Below w.heap.size w w' ∧ ((t < 0 ∧ e = .returned (.tuple #[.slice none 0 0, .int .i64 361])) ∨ (0 ≤ t ∧ ∃ v, e = .returned (.tuple #[v, .int .i64 t]) ∧ OwnI w' w.heap.size v K))

theorem fillingOf_any (A : Option Addr) (n cap : Nat) (c d : Nat → Int) (l k : Int) (L : Nat) (w : World) (hs : EOk n c d) (hk : JointOk k) (hl : LongOk l) (hL : l + k = (L : Int)) (hr : RdS w w.heap.size A n c d) :
    Calls Try.prog 126 #[.slice A n cap, .int .i64 l, .int .i64 k] w (Filling (TT (bF n c k) (qF n d) n 0 L) (kL (bF n c k) (qF n d) n L n) w) := by
  have hn6 := hs.1
  have hq60 := qF_60 hs
  have HQ60 := Lib.hid hq60
  have HSO := Lib.hid hs
  have HJO := Lib.hid hk
  have hL405 : L ≤ 405 := by unfold JointOk at hk; unfold LongOk at hl; omega
  obtain ⟨e0, e1, e2⟩ := FF_TT (bF n c k) (qF n d) n 0 L hn6 hq60
  have hfew := fun (i r : Nat) (W : World) (hi : i ≤ n) => fewest_any (w.heap.size + 4) w.heap.size (w.heap.size + 2) (w.heap.size + 1) (w.heap.size + 3) A n cap c d k hs hk (n - i) i (by omega) r W
  have HFW := Lib.hid hfew
  have HR := Lib.hid hr
  have HL := Lib.hid hL
  unfold JointOk at hk
  unfold LongOk at hl
  have hbb := fun i (hi : i < n) => bF_eq hs HJO.out hi
  have HBB := Lib.hid hbb
  have hqq := fun i (hi : i < n) => qF_eq hs hi
  have HQQ := Lib.hid hqq
  have hxx := fun i (hi : i < n) => (hs.2 i hi).1
  have HXX := Lib.hid hxx
  have hb1 := bF_one hs HJO.out
  have HB1 := Lib.hid hb1
  obtain ⟨b, hb⟩ : ∃ b, b = bF n c k := ⟨_, rfl⟩
  obtain ⟨q, hq⟩ : ∃ q, q = qF n d := ⟨_, rfl⟩
  rw [← hb, ← hq] at HFW e0 e1 e2 ⊢
  rw [← hb] at HBB HB1
  rw [← hq] at HQQ HQ60
  have HBQ := Lib.hid (And.intro hb hq)
  have HE0 := Lib.hid e0
  clear hq60 hfew hr hL hbb hqq hxx hb1 hb hq hs e0
  go_enter Try.func126, Try.ntmps126
  go_wp2_with fail
  refine (fewestBy_any A n cap c d k _ HR.out).mono ?_
  rintro e w1 ⟨rfl, hb1, s1, hFB, hTab⟩
  have HFB := Lib.hid hFB
  have HTab := Lib.hid hTab
  clear hFB hTab
  rw [← HBQ.out.1, ← HBQ.out.2] at HTab
  go_wp2_with fail
  refine (roomOf_any l k _ (by omega) (by omega)).mono ?_
  rintro e w2 ⟨rfl, rfl⟩
  rw [HL.out]
  have hE : ∀ (args : Array Value) (w : World), (callFunc 190 args).run Try.prog w = .ok (.enter 190 args) w := enters_of Try.func190 (by kernel_rfl) rfl
  go_wp2_with fail
  refine (HFW.out 0 L w1 (by omega) hL405 HFB.out HTab.out).mono ?_
  rintro e w3 ⟨rfl, hK3, hT3⟩
  have HK3 := Lib.hid hK3
  have HT3 := Lib.hid hT3
  have B3 : Below w.heap.size w w3 := hb1.trans (hK3.1.mono (by omega))
  clear hK3 hT3
  rw [HE0.out]
  obtain ⟨t, ht⟩ : ∃ t, t = TT b q n 0 L := ⟨_, rfl⟩
  rw [← ht] at e1 e2 ⊢
  have HT0 := Lib.hid ht
  by_cases ht0 : t < 0
  · have ha : asF t = 361 := by unfold asF; rw [if_pos ht0]
    rw [ha]
    clear ht ha
    go_wp2_with fail
    go_ret2
    exact ⟨B3, .inl ⟨by rw [← HT0.out]; exact ht0, rfl⟩⟩
  have ha : asF t = t := by unfold asF; rw [if_neg ht0]
  rw [ha]
  have hne : (t == 361) = false := by simp; omega
  clear ha ht
  go_wp2_with fail
  go_loopw [9, 11, 12, 14, 28] (fun t9 t11 t12 t14 t28 wr => ∃ i : Nat, i ≤ n ∧ t28 = .int .i64 i ∧ t9 = .int .i64 (aN b q n L i) ∧ OwnI wr (w.heap.size + 4) t11 (kL b q n L i) ∧ Below w.heap.size w wr ∧ FB (w.heap.size + 4) w.heap.size (w.heap.size + 2) (w.heap.size + 1) (w.heap.size + 3) A n cap c d k wr ∧ TabI wr (w.heap.size + 2) (FF b q n)) (fun t9 t11 t12 t14 t28 wr => n - (intOf t28).toNat)
  case atStart => exact ⟨0, Nat.zero_le _, rfl, rfl, OwnI.nil _ _, B3, HFB.out.kt HK3.out, HT3.out⟩
  case round =>
    clear B3
    obtain ⟨i, hi, rfl, rfl, hO, hB, hF, hT⟩ := hrel
    obtain ⟨wo, rfl⟩ : ∃ wo : World, wo = wr := ⟨_, rfl⟩
    obtain ⟨v0, rfl⟩ : ∃ v0 : Value, v0 = u11 := ⟨_, rfl⟩
    have HO := Lib.hid hO
    have HB := Lib.hid hB
    have HF := Lib.hid hF
    have HT := Lib.hid hT
    clear hO hB hF hT
    by_cases hlt : i < n
    · have hlti : (i : Int) < (n : Int) := by omega
      have hok := aN_ok b q n L (by rw [← HT0.out]; omega) i (by omega)
      have hks := kOf_spec b q n i (aN b q n L i) hlt hok.1
      have hmore := fun j (hj : j < fitN (b i) (q i) (aN b q n L i)) => more_iff b q n i (aN b q n L i) j hn6 HQ60.out hlt hok.1 hj
      have hkn : kN b q n L i = kOf b q n i (aN b q n L i) := rfl
      have has : aN b q n L (i + 1) = aN b q n L i - kN b q n L i * b i := rfl
      obtain ⟨a, ha⟩ : ∃ a, a = aN b q n L i := ⟨_, rfl⟩
      obtain ⟨K, hKK⟩ : ∃ K, K = kN b q n L i := ⟨_, rfl⟩
      rw [← hkn, ← hKK, ← ha] at hks
      rw [← ha, ← hKK] at has
      simp only [← ha] at hmore
      rw [← ha] at hok
      obtain ⟨x, ex⟩ : ∃ x, x = c i := ⟨_, rfl⟩
      have ecnt := HQQ.out i hlt
      obtain ⟨eby, hby2⟩ := HBB.out i hlt
      have hby1 := HB1.out i
      have hq60 := HQ60.out i
      have hx := HXX.out i hlt
      obtain ⟨by', hbb⟩ : ∃ by', by' = b i := ⟨_, rfl⟩
      obtain ⟨cnt, hcc⟩ : ∃ cnt, cnt = q i := ⟨_, rfl⟩
      rw [← hbb] at hks hmore has eby hby2 hby1
      rw [← hcc] at hks hmore ecnt hq60
      rw [← ex] at eby hx
      have hKf := hks.1
      have hfit : fitN by' cnt a ≤ 61 := by unfold fitN; omega
      have hK61 : K < 61 := by omega
      have ha405 : a ≤ 405 := by omega
      have HAS := Lib.hid has
      have HKS := Lib.hid hks
      have HMO := Lib.hid hmore
      have HKK := Lib.hid hKK
      have HA := Lib.hid ha
      have HEB := Lib.hid eby
      have HC := Lib.hid (And.intro hbb hcc)
      have HX2 := Lib.hid (And.intro ex ecnt)
      rw [← ha]
      obtain ⟨bl, off, rfl, hbl, c0, c1⟩ := (HR.out.below HB.out).at hlt
      rw [← ex] at c0
      rw [ecnt] at c1
      clear has hks hmore hKK ha eby hbb hcc ex ecnt hkn hok
      go_wp2_with fail
      obtain ⟨bx, hbx⟩ : ∃ bx, bx = wo.heap.size := ⟨_, rfl⟩
      have hN0 := HF.out.1.1
      have hbxN : w.heap.size + 4 ≤ bx := by omega
      have hX0 := heap_alloc_new wo (.cells #[.int .i8 x, .int .i16 (cnt : Int)] 89)
      obtain ⟨V, hV⟩ : ∃ V : World, V = wo.alloc (.cells #[.int .i8 x, .int .i16 (cnt : Int)] 89) := ⟨_, rfl⟩
      have hKV : KT (w.heap.size + 4) (w.heap.size + 2) wo V := by rw [hV]; exact KT.below (al (Below.refl _ _) _) (by omega)
      have hvb : ∀ j, v0.ownBlock = some j → j < bx := fun j e => by rw [hbx]; exact (HO.out.lt j e).2
      have HVB := Lib.hid hvb
      have HBV := Lib.hid (show Below w.heap.size w V by rw [hV]; exact al HB.out _)
      have HFV := Lib.hid (HF.out.kt hKV)
      have HTV := Lib.hid (show TabI V (w.heap.size + 2) (FF b q n) by rw [hV]; exact HT.out.below (al (Below.refl _ _) _))
      have HOV := Lib.hid (show OwnI V (w.heap.size + 4) v0 (kL b q n L i) by rw [hV]; exact HO.out.alloc _)
      rw [← hbx, ← hV] at hX0
      have HXV := Lib.hid hX0
      rw [← hV, ← hbx]
      clear hV hbx hX0 hKV hvb hN0 HB HF HT HO c0 c1
      go_loopw [14] (fun t14 wr => ∃ j : Nat, j ≤ K ∧ t14 = .int .i64 j ∧ OwnI wr (w.heap.size + 4) v0 (kL b q n L i) ∧ Below w.heap.size w wr ∧ FB (w.heap.size + 4) w.heap.size (w.heap.size + 2) (w.heap.size + 1) (w.heap.size + 3) (some ⟨bl, off, none⟩) n cap c d k wr ∧ TabI wr (w.heap.size + 2) (FF b q n) ∧ wr.heap[bx]? = some (.cells #[.int .i8 x, .int .i16 (cnt : Int)] 89 (0, 0))) (fun t14 wr => K + 1 - (intOf t14).toNat)
      case atStart => exact ⟨0, Nat.zero_le _, rfl, HOV.out, HBV.out, HFV.out, HTV.out, HXV.out⟩
      case round =>
        clear HOV HBV HFV HTV HXV
        obtain ⟨j, hj, rfl, hO, hB, hF, hT, hX⟩ := hrel
        obtain ⟨wq, rfl⟩ : ∃ wq : World, wq = wr := ⟨_, rfl⟩
        have cX0 := cell_of_row wq bx 0 _ _ _ hX
        have cX1 := cell_of_row wq bx 1 _ _ _ hX
        simp at cX0 cX1
        have HO := Lib.hid hO
        have HB := Lib.hid hB
        have HF := Lib.hid hF
        have HT := Lib.hid hT
        have HX := Lib.hid hX
        clear hO hB hF hT hX
        have hjf : j < fitN by' cnt a := by omega
        have h2 : j * by' ≤ a := (fitN_le (cnt := cnt) (show 0 < by' by omega) hjf).2
        obtain ⟨p, hp⟩ : ∃ p, j * by' = p := ⟨_, rfl⟩
        rw [hp] at h2
        obtain ⟨s, hs⟩ : ∃ s, s = a - p := ⟨_, rfl⟩
        have hsi : (a : Int) - (p : Int) = (s : Int) := by omega
        have hs405 : s ≤ 405 := by omega
        have hm := HMO.out j hjf
        rw [hp, ← hs] at hm
        have HM := Lib.hid hm
        have HP := Lib.hid hp
        have HS := Lib.hid hs
        have HSI := Lib.hid hsi
        clear hm hp hs hsi
        go_wp2_with fail
        refine (roomForP_any x (cnt : Int) k j by' p _ hx hk HEB.out (by omega) HP.out).mono ?_
        rintro e w4 ⟨rfl, hb4⟩
        have hNq := HF.out.1.1
        have hK4 : KT (w.heap.size + 4) (w.heap.size + 2) wq w4 := KT.below hb4 (by omega)
        have HF4 := Lib.hid (HF.out.kt hK4)
        have HT4 := Lib.hid (HT.out.below hb4)
        clear cX0 cX1
        have hsi := HSI.out
        go_wp2_with fail
        have hc5 := HFW.out (i + 1) s w4 (by omega) hs405 HF4.out HT4.out
        rw [show (((i + 1 : Nat)) : Int) = (i : Int) + 1 from rfl] at hc5
        refine hc5.mono ?_
        rintro e w5 ⟨rfl, hK5, hT5⟩
        have HF5 := Lib.hid (HF4.out.kt hK5)
        have HT5 := Lib.hid hT5
        have HK5 := Lib.hid (hK4.trans hK5)
        have hg := FF_room b q n (i + 1) s hn6 HQ60.out
        obtain ⟨g, hgg⟩ : ∃ g, g = FF b q n (i + 1) s := ⟨_, rfl⟩
        rw [← hgg] at hg ⊢
        have HG := Lib.hid hgg
        clear hc5 hK4 hK5 hT5 hgg
        go_wp2_with fail
        refine (HFW.out i a w5 (by omega) ha405 HF5.out HT5.out).mono ?_
        rintro e w6 ⟨rfl, hK6, hT6⟩
        have HK6 := Lib.hid (HK5.out.trans hK6)
        have HF6 := Lib.hid (HF5.out.kt hK6)
        have HT6 := Lib.hid hT6
        obtain ⟨f, hff⟩ : ∃ f, f = FF b q n i a := ⟨_, rfl⟩
        rw [← hff]
        have HFF := Lib.hid hff
        have HX6 := Lib.hid ((HK6.out.2 bx (Array.getElem?_eq_some_iff.1 HX.out).1 (by omega)).trans HX.out)
        have HO6 := Lib.hid (HO.out.kt HK6.out (by omega))
        have HB6 := Lib.hid (HB.out.trans (HK6.out.1.mono (show w.heap.size ≤ w.heap.size + 2 by omega)))
        clear hK6 hT6 hff
        by_cases hjK : j < K
        · have hmm : f < (j : Int) + g := by rw [HFF.out, HG.out]; exact HM.out.2 (HKS.out.2.2 j hjK)
          have D : decide (f < (j : Int) + g) = true := by simpa using hmm
          go_wp2_with fail
          exact ⟨⟨j + 1, by omega, by first | go_num | simp, HO6.out, HB6.out, HF6.out, HT6.out, HX6.out⟩, by simp [intOf]; omega⟩
        · obtain rfl : j = K := by omega
          have hmm : ¬ f < (j : Int) + g := by rw [HFF.out, HG.out]; exact fun hh => HM.out.1 hh HKS.out.2.1
          have D : decide (f < (j : Int) + g) = false := by simpa using hmm
          have cX0 := cell_of_row w6 bx 0 _ _ _ HX6.out
          have cX1 := cell_of_row w6 bx 1 _ _ _ HX6.out
          simp at cX0 cX1
          obtain ⟨i0, hi, hz0, hz1, hz2⟩ := info_parts infoI64
          have hN6 := HF6.out.1.1
          have hkl := kL_length b q n L i
          have hbx6 := (Array.getElem?_eq_some_iff.1 HX6.out).1
          go_wp2_with (at_builtin; refine wpList_append_own _ rfl _ _ 29 rfl (w.heap.size + 4) 2 i0 (.int .i64 0) 1 8 Try.underlying29 hi hz0 hz1 hz2 rfl (by decide) _ _ _ rfl (World.ownsRow.alloc HO6.out _) ⟨w6.heap.size, 0, none⟩ 1 1 [.int .i64 (j : Int)] rfl rfl (ncells w6 #[.int .i64 (j : Int)] 2) one64 (by unfold maxLen; omega) (by omega) (by simp; omega) ?_; intro v' w1 own' hgr _; have hX7 := (hgr.block bx (by simp; omega) (fun e => by have := HVB.out bx e.symm; omega)).trans ((Below.heap_alloc w6 _ _ hbx6).trans HX6.out); have cY0 := cell_of_row w1 bx 0 _ _ _ hX7; have cY1 := cell_of_row w1 bx 1 _ _ _ hX7; simp at cY0 cY1)
          have hgz := hgr.size
          rw [World.size_alloc] at hgz
          have B7 : Below (w.heap.size + 4) w6 w1 := (al (Below.refl _ _ : Below w6.heap.size w6 w6) _ |>.mono (by omega)).grown hgr (by simp; omega) (fun k e => (HO6.out.lt k e).1)
          have O7 : OwnI w1 (w.heap.size + 4) v' (kL b q n L (i + 1)) := by
            rw [kL_succ, ← HKK.out]
            exact OwnI.snoc own'
          have F7 := HF6.out.belowN B7
          have T7 : TabI w1 (w.heap.size + 2) (FF b q n) := HT6.out.kept (by omega) (B7.block _ (by omega))
          have B8 : Below w.heap.size w w1 := HB6.out.trans (B7.mono (by omega))
          clear own' B7
          refine (roomForP_any x (cnt : Int) k j by' p _ hx hk HEB.out (by omega) HP.out).mono ?_
          rintro e w8 ⟨rfl, hb8⟩
          have K8 : KT (w.heap.size + 4) (w.heap.size + 2) w1 w8 := KT.below hb8 (by omega)
          have hsi := HSI.out
          have hres : (aN b q n L (i + 1) : Int) = (s : Int) := by rw [HAS.out, HP.out, HS.out]
          go_wp2_with fail
          exact ⟨⟨i + 1, by omega, by first | go_num | simp, by rw [hres], O7.below hb8, nxt B8 hb8, F7.kt K8, T7.below hb8⟩, by simp [intOf]; omega⟩
    · obtain rfl : i = n := by omega
      have hlti : ¬ (i : Int) < (i : Int) := by omega
      have hN6 := HF.out.1.1
      go_wp2_with fail
      go_ret2
      exact ⟨HB.out, .inr ⟨by rw [← HT0.out]; omega, v0, by rw [← HT0.out]; rfl, HO.out.mono (by omega)⟩⟩
end Go.Proofs.Ytjeccdmhpbaabaa
