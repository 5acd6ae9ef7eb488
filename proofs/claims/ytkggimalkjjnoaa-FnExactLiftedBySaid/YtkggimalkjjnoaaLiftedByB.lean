/-
  Both sides of LiftedBy answer the same. Conditions stand at each.
-/
import Derived.Test.YtkggimalkjjnoaaRows
import Derived.Test.YtkggimalkjjnoaaLiftedByI
import Derived.Test.YtkggimalkjjnoaaSlabN
import Derived.Test.YtkggimalkjjnoaaCellL
namespace Go.Proofs.Ytkggimalkjjnoaa
open Go Go.ChangeShapes Go.WideShapes Go.ChangeAt Go.RowKit Go.Shelf
set_option linter.unusedVariables false
set_option linter.unusedSimpArgs false
set_option maxRecDepth 100000
set_option maxHeartbeats 4000000
namespace liftedBy
def LlPost (G c : Nat → Int) (n : Nat) (w : World) (e : Ending) (w' : World) : Prop := Below w.heap.size w w' ∧ ∃ v, e = .returned v ∧ OwnI w' w.heap.size v (lfL G c n)
theorem l05Lifted_any (X Y : Int) (bq g m : Nat) (d : Nat → Int) (A : Option Addr) (n cap : Nat) (c : Nat → Int) (w : World) (hX : -128 ≤ X ∧ X ≤ 127) (hY : -128 ≤ Y ∧ Y ≤ 127) (hd : ∀ j, -128 ≤ d j ∧ d j ≤ 127) (hm : m ≤ 1048576) (hn : n ≤ 100) (hq : Sq w bq X Y (.slice (some ⟨g, 0, none⟩) m m)) (hrow : w.rowIs g 55 (4 * m) (fun j => .int .i8 (d j))) (hr : RdK .i8 w w.heap.size A (2 * n) c) (hv : Valid X Y m d) (hin : CellsIn X Y n c) :
    Calls Try.prog 102 #[.pointer (some ⟨bq, 0, none⟩), .slice A n cap] w (LlPost (gridN d m) c n w) := by
  have HR := Lib.hid hr
  have HD := Lib.hid hd
  have HIN := Lib.hid hin
  have hX12 : X ≤ 12 := hv.2.1
  have hY12 : Y ≤ 12 := hv.2.2.2.1
  have hm60 : m ≤ 60 := hv.2.2.2.2.1
  obtain ⟨i0, hi, hz0, hz1, hz2⟩ := info_parts infoI64
  clear hr hd hin
  go_enter Try.func102, Try.ntmps102
  go_wp2_with fail
  refine (lay_any X Y bq g m d _ hX hY HD.out hm hq hrow).mono ?_
  rintro e w3 ⟨B, cs, hsz, hone, hcase⟩
  rcases hcase with ⟨_, hcell, rfl⟩ | ⟨hn, _⟩
  case inr => exact absurd hv hn
  clear hq hrow
  have hG : (w3.alloc (.cells Try.zeroCells203 203)).heap[w3.heap.size]? = some (.cells Try.zeroCells203 203 (0, 0)) := heap_alloc_new w3 _
  have B4 := below_setRow (al B (.cells Try.zeroCells203 203)) B.size cs
  have R4 : ((w3.alloc (.cells Try.zeroCells203 203)).setRow w3.heap.size cs).rowIs w3.heap.size 203 144 (fun p => .int .i64 (gridN d m p)) := ⟨cs, setRow_heap _ _ _ _ _ _ hG, hsz, fun p hp => by show cs[p]? = some (Value.int IntKind.i64 (gridN d m p)); rw [hcell p hp]⟩
  obtain ⟨W4, hW4⟩ : ∃ W4 : World, W4 = ((w3.alloc (.cells Try.zeroCells203 203)).setRow w3.heap.size cs) := ⟨_, rfl⟩
  rw [← hW4] at B4 R4
  clear B hG
  have hGb := fun p => gridN_bd d p m
  obtain ⟨G, hGe⟩ : ∃ G, G = gridN d m := ⟨_, rfl⟩
  rw [← hGe] at R4
  have HGB : Hid (∀ p, 0 ≤ G p ∧ G p ≤ 60) := Lib.hid (by rw [hGe]; intro p; have := hGb p; omega)
  have HGE := Lib.hid hGe
  have HB4 := Lib.hid B4.size
  have hgl : w3.heap.size < W4.heap.size := R4.lt
  have O4 : OwnI (W4.alloc (.cells #[] 2)) W4.heap.size (.slice (some ⟨W4.heap.size, 0, none⟩) 0 0) [] := OwnI.made W4 (Nat.le_refl _)
  have R5 := R4.alloc (.cells #[] 2)
  have B5 := al B4 (.cells #[] 2)
  obtain ⟨W5, hW5⟩ : ∃ W5 : World, W5 = W4.alloc (.cells #[] 2) := ⟨_, rfl⟩
  rw [← hW5] at O4 R5 B5
  have hWW : W4.heap.size ≤ W5.heap.size := by rw [hW5]; simp
  clear hGe hGb
  go_wp2_with (first
    | (refine wpList_store_row rfl 203 (.tmp 5) (.tmp 13) rfl w3.heap.size cs rfl rfl 203 Try.zeroCells203 (heap_alloc_new w3 _) (by rw [info93, hsz]) (by rw [zc_size, hsz]) hone ?_
       rw [← hW4]
       clear hW4 hcell hone hsz))
  rw [← hW5]
  obtain ⟨gb, hgb⟩ : ∃ gb, gb = w3.heap.size := ⟨_, rfl⟩
  rw [← hgb] at R5 hgl ⊢
  clear hW5 hgb R4 B4
  go_loopw [7, 8, 9] (fun t7 t8 t9 wr => ∃ k : Nat, k ≤ n ∧ t8 = .int .i64 k ∧ Below w.heap.size w wr ∧ wr.rowIs gb 203 144 (fun p => .int .i64 (G p)) ∧ OwnI wr W4.heap.size t7 (lfL G c k) ∧ W4.heap.size ≤ wr.heap.size) (fun t7 t8 t9 wr => n - (intOf t8).toNat)
  case atStart => exact ⟨0, by omega, rfl, B5, R5, O4, hWW⟩
  case round =>
    clear B5 R5 O4 hWW
    obtain ⟨k, hk, rfl, B, R, O, hwg⟩ := hrel
    obtain ⟨v0, rfl⟩ : ∃ v0 : Value, v0 = u7 := ⟨_, rfl⟩
    have hO := Lib.hid O
    clear O
    by_cases hlt : k < n
    · have hki : (k : Int) < (n : Int) := by omega
      obtain ⟨b, off, rfl, hbl, c0, c1⟩ := rdCell (HR.out.below B) hlt
      obtain ⟨k1, k2, k3, k4⟩ := HIN.out k hlt
      obtain ⟨x, hx⟩ := Int.eq_ofNat_of_zero_le k1
      obtain ⟨y, hy⟩ := Int.eq_ofNat_of_zero_le k2
      have hx12 : (x : Int) < 12 := by omega
      have hy12 : (y : Int) < 12 := by omega
      have hx0 : (0 : Int) ≤ (x : Int) := by omega
      have hy0 : (0 : Int) ≤ (y : Int) := by omega
      rw [hx] at c0
      rw [hy] at c1
      have hgb := HGB.out (y * 12 + x)
      have hlen := lfL_length G c k
      have hgc := R.cell (i := y * 12 + x) (by omega)
      obtain ⟨z, hz⟩ : ∃ z, z = G (y * 12 + x) := ⟨_, rfl⟩
      (try dsimp only at hgc)
      rw [← hz] at hgb hgc
      have hv : z - 1 = G (y * 12 + x) - 1 := by rw [hz]
      have LY := Lib.hid (lfL_yes (G := G) (c := c) (k := k) hx hy hv)
      have LN := Lib.hid (lfL_no (G := G) (c := c) (k := k) hx hy hv)
      have hgb1 := hgb.1
      have hgb2 := hgb.2
      obtain ⟨A8, cap8, rfl⟩ := hO.out.shape
      clear k1 k2 k3 k4 hx hy hv hz hgb
      go_wp2_with fail
      go_quiet (fail)
      have hbq : Below wr.heap.size wr (wr.drewN nq) := below_drewN' (Below.refl _ _) nq
      have R1 := rowNext0 R hbq
      have B1 := nxt B hbq
      have hO7 := Lib.hid (hO.out.below hbq)
      have hWGE : W4.heap.size ≤ (wr.drewN nq).heap.size := Nat.le_trans hwg hbq.size
      obtain ⟨W7, hW7⟩ : ∃ W7 : World, W7 = wr.drewN nq := ⟨_, rfl⟩
      rw [← hW7] at R1 B1 hO7 hWGE ⊢
      clear hW7 hbq R B hO hgc c0 c1 hwg
      have hrd := hO7.out.rd.2
      by_cases h0 : z = 0
      · subst h0
        have HN := Lib.hid (LN.out (fun h => by have := h.1; omega))
        clear LY LN hrd
        go_wp2
        exact ⟨⟨k + 1, by omega, by first | go_num | simp, B1, R1, by rw [HN.out]; exact hO7.out, hWGE⟩, by simp [intOf]; omega⟩
      · have hzz : 0 ≤ z - 1 := by omega
        have hzz' : 1 ≤ z := by omega
        by_cases hin : InL (lfL G c k).length (fun j => (lfL G c k).getD j 0) (z - 1)
        · have HN := Lib.hid (LN.out (fun h => h.2 hin))
          have HI := Lib.hid (fun (W : World) (hr : RdK .i64 W W.heap.size A8 (lfL G c k).length (fun j => (lfL G c k).getD j 0)) => hasN_yes A8 (lfL G c k).length cap8 _ (z - 1) W (by omega) hr hin)
          have HRD := Lib.hid hrd
          obtain ⟨N8, hN8⟩ : ∃ N8, N8 = (lfL G c k).length := ⟨_, rfl⟩
          rw [← hN8] at HI HRD hlen ⊢
          have HN8 := Lib.hid hN8
          clear LY LN hrd hin h0 hN8
          go_wp2_with fail
          refine (HI.out _ HRD.out).mono ?_
          rintro e w8 ⟨rfl, hw8⟩
          replace hw8 := hw8.symm
          subst hw8
          go_wp2
          exact ⟨⟨k + 1, by omega, by first | go_num | simp, B1, R1, by rw [HN.out, HN8.out]; exact hO7.out, hWGE⟩, by simp [intOf]; omega⟩
        · have HY := Lib.hid (LY.out hzz hin)
          have HI := Lib.hid (fun (W : World) (hr : RdK .i64 W W.heap.size A8 (lfL G c k).length (fun j => (lfL G c k).getD j 0)) => hasN_no A8 (lfL G c k).length cap8 _ (z - 1) W (by omega) hr hin)
          have HRD := Lib.hid hrd
          obtain ⟨N8, hN8⟩ : ∃ N8, N8 = (lfL G c k).length := ⟨_, rfl⟩
          have hO8 : Hid (OwnI W7 W4.heap.size (.slice A8 N8 cap8) (lfL G c k)) := Lib.hid (by rw [hN8]; exact hO7.out)
          rw [← hN8] at HI HRD hlen ⊢
          have hlen' : (lfL G c k).length ≤ k := by rw [← hN8]; exact hlen
          clear LY LN hrd hin h0 hO7 hN8
          go_wp2_with fail
          refine (HI.out _ HRD.out).mono ?_
          rintro e w8 ⟨rfl, hw8⟩
          replace hw8 := hw8.symm
          subst hw8
          have hWs := HB4.out
          go_wp2_with (at_builtin; refine wpList_append_own _ rfl _ _ 29 rfl W4.heap.size 2 i0 (.int .i64 0) 1 8 Try.underlying29 hi hz0 hz1 hz2 rfl (by decide) _ _ _ rfl (World.ownsRow.alloc hO8.out _) ⟨W7.heap.size, 0, none⟩ 1 1 [.int .i64 (z - 1)] rfl rfl (ncells W7 #[.int .i64 (z - 1)] 2) one64 (by unfold maxLen; omega) (by omega) (by simp; omega) ?_; intro v' w1 own' hgr _)
          have hgr2 : (W7.alloc (.cells #[.int .i64 (z - 1)] 2)).grownBy w1 (Value.slice A8 N8 cap8).ownBlock := hgr
          have O9 := OwnI.snoc own'
          have B9 : Below w.heap.size w w1 := (al B1 _).grown hgr2 (al B1 _).size (fun k e => by have := (hO8.out.lt k e).1; omega)
          have R9 : w1.rowIs gb 203 144 (fun p => .int .i64 (G p)) := (R1.alloc (.cells #[.int .i64 (z - 1)] 2)).of_block (hgr2.block gb (by simp; omega) (fun e => by have := (hO8.out.lt gb e.symm).1; omega))
          rw [← HY.out] at O9
          have hgs := hgr2.size
          have HF := Lib.hid (And.intro B9 (And.intro R9 (And.intro O9 (show W4.heap.size ≤ w1.heap.size by simp at hgs; omega))))
          clear own' hgr hgr2 hgs O9 B9 R9 hO8 R1 B1
          go_wp2
          exact ⟨⟨k + 1, by omega, by first | go_num | simp, HF.out.1, HF.out.2.1, HF.out.2.2.1, HF.out.2.2.2⟩, by simp [intOf]; omega⟩
    · obtain rfl : k = n := by omega
      have hki : ¬ ((k : Int) < (k : Int)) := by omega
      go_wp2_with fail
      go_ret
      exact ⟨B, _, rfl, by rw [← HGE.out]; exact hO.out.mono HB4.out⟩

theorem spec_any (X Y : Int) (g m : Nat) (d : Nat → Int) (A : Option Addr) (n cap : Nat) (c : Nat → Int) (w : World) (hX : -128 ≤ X ∧ X ≤ 127) (hY : -128 ≤ Y ∧ Y ≤ 127) (hd : ∀ j, -128 ≤ d j ∧ d j ≤ 127) (hm : m ≤ 1048576) (hn : n ≤ 1048576) (hc : ∀ j, -128 ≤ c j ∧ c j ≤ 127) (hrow : w.rowIs g 55 (4 * m) (fun j => .int .i8 (d j))) (hr : RdK .i8 w w.heap.size A (2 * n) c) :
    Calls Try.prog 27 #[.agg #[.int .i8 X, .int .i8 Y, .slice (some ⟨g, 0, none⟩) m m], .slice A n cap] w (LbPost X Y m d n c w) := by
  have HR := Lib.hid hr
  have HC := Lib.hid hc
  have HD := Lib.hid hd
  clear hr hc hd
  have HQ := Sq.new w X Y (.slice (some ⟨g, 0, none⟩) m m) 34
  have B := al (Below.refl w.heap.size w) (.cells #[.int .i8 X, .int .i8 Y, .slice (some ⟨g, 0, none⟩) m m] 34)
  have R := hrow.alloc (.cells #[.int .i8 X, .int .i8 Y, .slice (some ⟨g, 0, none⟩) m m] 34)
  go_enter Try.func27, Try.ntmps27
  go_upto_region 1 with fail
  obtain ⟨W0, hW0⟩ : ∃ W0 : World, W0 = (w.alloc (.cells #[.int .i8 X, .int .i8 Y, .slice (some ⟨g, 0, none⟩) m m] 34)) := ⟨_, rfl⟩
  rw [← hW0] at HQ B R ⊢
  clear hW0
  go_wp2_with fail
  refine (ok_any X Y w.heap.size g m d _ hX hY HD.out hm HQ R).mono ?_
  rintro e w1 ⟨hb, ⟨hv, rfl⟩ | ⟨hv, rfl⟩⟩
  case inr =>
    replace B := nxt B hb
    have HV := Lib.hid hv
    clear hb hv
    go_wp2_with fail
    exact bodyPost_ret (results_tmp2 Try.results27 _ _ _) rfl ⟨al B _, .inl ⟨HV.out, _, rfl, OwnI.made _ B.size⟩⟩
  have HV := Lib.hid hv
  have hX12 : 1 ≤ X ∧ X ≤ 12 := ⟨hv.1, hv.2.1⟩
  have hY12 : 1 ≤ Y ∧ Y ≤ 12 := ⟨hv.2.2.1, hv.2.2.2.1⟩
  replace HQ := HQ.below hb
  replace R := rowNext0 R hb
  replace B := nxt B hb
  clear hb hv
  by_cases h100 : 100 < n
  · have d1 : decide (100 < n) = true := by simp; omega
    go_wp2_with fail
    exact bodyPost_ret (results_tmp2 Try.results27 _ _ _) rfl ⟨al B _, .inr (.inl ⟨HV.out, 3, by decide, .inl ⟨h100, rfl⟩, _, rfl, OwnI.made _ B.size⟩)⟩
  have d1 : decide (100 < n) = false := by simp; omega
  have hle : n ≤ 100 := by omega
  clear h100
  go_wp2_with fail
  clear d1
  go_loopw [6] (fun t6 wr => ∃ k : Nat, k ≤ n ∧ t6 = .int .i64 k ∧ Below w.heap.size w wr ∧ Sq wr w.heap.size X Y (.slice (some ⟨g, 0, none⟩) m m) ∧ wr.rowIs g 55 (4 * m) (fun j => .int .i8 (d j)) ∧ ∀ j, j < k → insd X Y (c (2 * j)) (c (2 * j + 1))) (fun t6 wr => n - (intOf t6).toNat)
  case atStart => exact ⟨0, by omega, rfl, B, HQ, R, fun j hj => by omega⟩
  case round =>
    clear B HQ R
    obtain ⟨k, hk, rfl, B, HQ, R, hall⟩ := hrel
    have HA := Lib.hid hall
    clear hall
    by_cases hlt : k < n
    · have hki : (k : Int) < (n : Int) := by omega
      obtain ⟨b, off, rfl, hbl, c0, c1⟩ := rdCell (HR.out.below B) hlt
      have b0 := HC.out (2 * k)
      have b1 := HC.out (2 * k + 1)
      by_cases h : insd X Y (c (2 * k)) (c (2 * k + 1))
      · have HI := Lib.hid (fun (W : World) (hq : Sq W w.heap.size X Y (.slice (some ⟨g, 0, none⟩) m m)) => is_yes X Y (c (2 * k)) (c (2 * k + 1)) w.heap.size _ W hX hY b0 b1 hq h)
        have H := Lib.hid h
        clear b0 b1 h
        go_wp2_with fail
        refine (HI.out _ HQ).mono ?_
        rintro e w2 ⟨rfl, hb⟩
        have B2 := nxt B hb
        have Q2 := HQ.below hb
        have R2 := rowNext0 R hb
        clear hb c0 c1 B HQ R
        go_wp2
        exact ⟨⟨k + 1, by omega, by first | go_num | simp, B2, Q2, R2, fun j hj => by
          by_cases e : j = k
          · subst e; exact H.out
          · exact HA.out j (by omega)⟩, by simp [intOf]; omega⟩
      · have HI := Lib.hid (fun (W : World) (hq : Sq W w.heap.size X Y (.slice (some ⟨g, 0, none⟩) m m)) => is_no X Y (c (2 * k)) (c (2 * k + 1)) w.heap.size _ W hX hY b0 b1 hq h)
        have H := Lib.hid h
        clear b0 b1 h
        go_wp2_with fail
        refine (HI.out _ HQ).mono ?_
        rintro e w2 ⟨rfl, hb⟩
        have B2 := nxt B hb
        clear hb c0 c1 B HQ R
        go_wp2_with fail
        exact bodyPost_ret (results_tmp2 Try.results27 _ _ _) rfl ⟨al B2 _, .inr (.inl ⟨HV.out, 2, by decide, .inr (.inl ⟨hle, fun hh => H.out (hh k hlt), rfl⟩), _, rfl, OwnI.made _ B2.size⟩)⟩
    · obtain ⟨N, hN⟩ : ∃ N, N = n := ⟨_, rfl⟩
      have hkn : k = n := by omega
      have HIN : Hid (CellsIn X Y n c) := Lib.hid (by rw [← hkn]; exact HA.out)
      have hki : ¬ ((k : Int) < (n : Int)) := by omega
      clear hN HA hkn hlt hk
      go_wp2_with fail
      clear hki
      go_loopw [7] (fun t7 wr' => ∃ k : Nat, 1 ≤ k ∧ (k ≤ n ∨ k = 1) ∧ t7 = .int .i64 k ∧ Below w.heap.size w wr' ∧ Sq wr' w.heap.size X Y (.slice (some ⟨g, 0, none⟩) m m) ∧ wr'.rowIs g 55 (4 * m) (fun j => .int .i8 (d j)) ∧ ∀ j, 1 ≤ j → j < k → nearP (c (2 * (j - 1))) (c (2 * (j - 1) + 1)) (c (2 * j)) (c (2 * j + 1))) (fun t7 wr' => n - (intOf t7).toNat)
      case atStart => exact ⟨1, by omega, by omega, rfl, B, HQ, R, fun j h1 hj => by omega⟩
      case round =>
        clear B HQ R
        obtain ⟨k, hk1, hk, rfl, B, HQ, R, hall⟩ := hrel
        have HA := Lib.hid hall
        clear hall
        by_cases hlt : k < n
        · have hki : (k : Int) < (n : Int) := by omega
          obtain ⟨b, off, rfl, hbl, c0, c1⟩ := rdCell (HR.out.below B) hlt
          obtain ⟨b', off', e', hbl', d0, d1⟩ := rdCell (HR.out.below B) (show k - 1 < n by omega)
          injection e' with e'
          injection e' with e1 e2 _
          subst e1 e2
          have hi1 := HIN.out k hlt
          have hi2 := HIN.out (k - 1) (by omega)
          unfold insd at hi1 hi2
          have s1 : IntKind.i64.wrap ((k : Int) - 1) = (k : Int) - 1 := IntWalk.i64_in _ (by omega)
          have s2 : 0 ≤ (k : Int) - 1 := by omega
          have s3 : ((k : Int) - 1).toNat = k - 1 := by omega
          have s4 : (k : Int) - 1 < (n : Int) := by omega
          have s5 : (1 : Int) ≤ (k : Int) := by omega
          have k0 : (0 : Int) ≤ (k : Int) := by omega
          obtain ⟨r, hr⟩ : ∃ r : Bool, r = true ↔ nearP (c (2 * (k - 1))) (c (2 * (k - 1) + 1)) (c (2 * k)) (c (2 * k + 1)) := by
            by_cases h : nearP (c (2 * (k - 1))) (c (2 * (k - 1) + 1)) (c (2 * k)) (c (2 * k + 1))
            · exact ⟨true, by simp [h]⟩
            · exact ⟨false, by simp [h]⟩
          have HS := Lib.hid (fun W => l05Near_any (c (2 * (k - 1))) (c (2 * (k - 1) + 1)) (c (2 * k)) (c (2 * k + 1)) r W (by omega) (by omega) (by omega) (by omega) hr)
          have HNP := Lib.hid hr
          clear hi1 hi2 hr hk
          go_wp2_with fail
          go_region_held3 (fun w' => w'.cell? ⟨b, off + k * 2, none⟩ = some (.int .i8 (c (2 * k))) ∧ w'.cell? ⟨b, off + k * 2 + 1, none⟩ = some (.int .i8 (c (2 * k + 1))) ∧ w'.cell? ⟨b, off + (k - 1) * 2, none⟩ = some (.int .i8 (c (2 * (k - 1)))) ∧ w'.cell? ⟨b, off + (k - 1) * 2 + 1, none⟩ = some (.int .i8 (c (2 * (k - 1) + 1))))
            (first | exact ⟨c0, c1, d0, d1⟩ | go_keep)
            ((go_at_call 101
              with_reducible refine (HS.out _).mono ?_
              rintro e w2 ⟨rfl, hb⟩
              have B3 := nxt B.drew hb
              have Q3 : Sq w2 w.heap.size X Y (.slice (some ⟨g, 0, none⟩) m m) := Sq.below (w := wr.drew) HQ hb
              have R3 : w2.rowIs g 55 (4 * m) (fun j => .int .i8 (d j)) := rowNext0 (w := wr.drew) R hb
              have hz1 := (hb.cell (p := ⟨b, off + k * 2, none⟩) (Nat.lt_of_lt_of_le hbl B.size)).trans c0
              have hz2 := (hb.cell (p := ⟨b, off + k * 2 + 1, none⟩) (Nat.lt_of_lt_of_le hbl B.size)).trans c1
              have hz3 := (hb.cell (p := ⟨b, off + (k - 1) * 2, none⟩) (Nat.lt_of_lt_of_le hbl B.size)).trans d0
              have hz4 := (hb.cell (p := ⟨b, off + (k - 1) * 2 + 1, none⟩) (Nat.lt_of_lt_of_le hbl B.size)).trans d1
              clear hb))
          cases r with
          | true =>
            have H := Lib.hid (HNP.out.1 rfl)
            clear HNP
            go_wp2
            exact ⟨⟨k + 1, by omega, by omega, by first | go_num | simp, B3, Q3, R3, fun j h1 hj => by
              by_cases e : j = k
              · subst e; exact H.out
              · exact HA.out j h1 (by omega)⟩, by simp [intOf]; omega⟩
          | false =>
            have H : Hid (¬ nearP (c (2 * (k - 1))) (c (2 * (k - 1) + 1)) (c (2 * k)) (c (2 * k + 1))) := Lib.hid (fun h => by have := HNP.out.2 h; cases this)
            clear HNP
            go_wp2_with fail
            exact bodyPost_ret (results_tmp2 Try.results27 _ _ _) rfl ⟨al B3 _, .inr (.inl ⟨HV.out, 4, by decide, .inr (.inr (.inl ⟨hle, HIN.out, fun hh => H.out (hh k hk1 hlt), rfl⟩)), _, rfl, OwnI.made _ B3.size⟩)⟩
        · have hki : ¬ ((k : Int) < (n : Int)) := by omega
          have HJ : Hid (Joined n c) := Lib.hid (fun j h1 hj => HA.out j h1 (by omega))
          clear HA hk
          go_wp2_with fail
          refine (l05Lifted_any X Y w.heap.size g m d A n cap c _ hX hY HD.out hm hle HQ R ((HR.out.below B).mono B.size) HV.out HIN.out).mono ?_
          rintro e w2 ⟨hb, v, rfl, O⟩
          have B3 := nxt B hb
          have hO := Lib.hid (O.mono B.size)
          clear hb O
          go_wp2_with fail
          exact bodyPost_ret (results_tmp2 Try.results27 _ _ _) rfl ⟨B3, .inr (.inr ⟨HV.out, .inr (.inr (.inr ⟨hle, HIN.out, HJ.out, rfl⟩)), _, rfl, hO.out⟩)⟩

theorem both (X Y : Int) (m : Nat) (d : Nat → Int) (n : Nat) (c : Nat → Int) (hX : -128 ≤ X ∧ X ≤ 127) (hY : -128 ≤ Y ∧ Y ≤ 127) (hd : ∀ j, -128 ≤ d j ∧ d j ≤ 127) (hm : m ≤ 1048576) (hc : ∀ j, -128 ≤ c j ∧ c j ≤ 127) (hn : n ≤ 1048576) :
    ∃ (z1 : Int) (nn : Nat) (ff : Nat → Int), nn ≤ 1000 ∧
      (∀ (W : World) (G0 G1 : Nat), Ab W G0 m d → Ac W G1 n c → Calls Try.prog 27 #[.agg #[.int .i8 X, .int .i8 Y, .slice (some ⟨G0, 0, none⟩) m m], .slice (some ⟨G1, 0, none⟩) n n] W fun e w' => Below W.heap.size W w' ∧ ∃ v, e = .returned (.tuple #[v, .int .i64 z1]) ∧ HasSlice .i64 1 w' W.heap.size v nn ff) ∧
      (∀ (W : World) (G0 G1 : Nat), Ab W G0 m d → Ac W G1 n c → Calls Try.prog 30 #[.agg #[.int .i8 X, .int .i8 Y, .slice (some ⟨G0, 0, none⟩) m m], .slice (some ⟨G1, 0, none⟩) n n] W fun e w' => Below W.heap.size W w' ∧ ∃ v, e = .returned (.tuple #[v, .int .i64 z1]) ∧ HasSlice .i64 1 w' W.heap.size v nn ff) := by
  have key : ∃ (z1 : Int) (nn : Nat) (ff : Nat → Int), nn ≤ 1000 ∧ ∀ (W : World) (e : Ending) (w' : World), LbPost X Y m d n c W e w' → Below W.heap.size W w' ∧ ∃ v, e = .returned (.tuple #[v, .int .i64 z1]) ∧ HasSlice .i64 1 w' W.heap.size v nn ff := by
    by_cases hv : Valid X Y m d
    · obtain ⟨r, hr⟩ : ∃ r, WyCode X Y n c r := by
        by_cases h1 : n ≤ 100
        · by_cases h2 : CellsIn X Y n c
          · by_cases h3 : Joined n c
            · exact ⟨0, .inr (.inr (.inr ⟨h1, h2, h3, rfl⟩))⟩
            · exact ⟨4, .inr (.inr (.inl ⟨h1, h2, h3, rfl⟩))⟩
          · exact ⟨2, .inr (.inl ⟨h1, h2, rfl⟩)⟩
        · exact ⟨3, .inl ⟨by omega, rfl⟩⟩
      by_cases h0 : r = 0
      · subst h0
        refine ⟨0, (lfL (gridN d m) c n).length, fun j => (lfL (gridN d m) c n).getD j 0, ?_, fun W e w' ⟨hb, hp⟩ => ?_⟩
        · have := lfL_length (gridN d m) c n
          have := (ok_of hr).1
          omega
        · rcases hp with ⟨h, _⟩ | ⟨_, r', h1, h2, _⟩ | ⟨_, _, v, rfl, O⟩
          · exact absurd hv h
          · exact absurd (h2.one hr) h1
          · exact ⟨hb, v, rfl, O.has⟩
      · refine ⟨r, ([] : List Int).length, fun j => ([] : List Int).getD j 0, by simp, fun W e w' ⟨hb, hp⟩ => ?_⟩
        rcases hp with ⟨h, _⟩ | ⟨_, r', h1, h2, v, rfl, O⟩ | ⟨_, h2, _⟩
        · exact absurd hv h
        · obtain rfl := h2.one hr
          exact ⟨hb, v, rfl, O.has⟩
        · exact absurd (hr.one h2) h0
    · refine ⟨1, ([] : List Int).length, fun j => ([] : List Int).getD j 0, by simp, fun W e w' ⟨hb, hp⟩ => ?_⟩
      rcases hp with ⟨_, v, rfl, O⟩ | ⟨h, _⟩ | ⟨h, _⟩
      · exact ⟨hb, v, rfl, O.has⟩
      · exact absurd h hv
      · exact absurd h hv
  obtain ⟨z1, nn, ff, hnn, hk⟩ := key
  exact ⟨z1, nn, ff, hnn, fun W G0 G1 h0 h1 => (spec_any X Y G0 m d _ n n c W hX hY hd hm hn hc h0.row h1.rd).mono (hk W), fun W G0 G1 h0 h1 => (impl_any X Y G0 m d _ n n c W hX hY hd hm hn hc h0.row h1.rd).mono (hk W)⟩
end liftedBy
end Go.Proofs.Ytkggimalkjjnoaa
