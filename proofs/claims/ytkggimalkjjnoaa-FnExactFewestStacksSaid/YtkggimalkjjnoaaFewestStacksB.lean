/-
  Both sides of FewestStacks answer the same. Conditions stand at each.
-/
import Derived.Test.YtkggimalkjjnoaaRows
import Derived.Test.YtkggimalkjjnoaaFewStI
import Derived.Deep.Cut
import Derived.Deep.DeepCutAuto
namespace Go.Proofs.Ytkggimalkjjnoaa
open Go Go.ChangeShapes Go.WideShapes Go.ChangeAt Go.RowKit
set_option linter.unusedVariables false
set_option linter.unusedSimpArgs false
set_option maxRecDepth 100000
set_option maxHeartbeats 4000000
namespace fewestStacks
theorem own_at {w : World} {base g n cap i : Nat} {L : List Int} (h : OwnI w base (.slice (some ⟨g, 0, none⟩) n cap) L) (hi : i < L.length) : ∃ x, w.cell? ⟨g, i, none⟩ = some (.int .i64 x) ∧ w.frozen? ⟨g, i, none⟩ = false := by
  refine ⟨L.getD i 0, ?_, ?_⟩
  · have hlen : L.length = n := by
      rcases h with ⟨hl, ⟨h0, _⟩ | ⟨g', cap', cur, hv, r⟩⟩
      · cases h0
      · injection hv with _ e _
        exact e.symm
    have h' := h
    unfold OwnI at h'
    rw [hlen] at h'
    refine row_cells h' i _ ?_
    rw [List.getElem?_map, List.getD_eq_getElem?_getD, List.getElem?_eq_getElem hi]
    rfl
  · rcases h with ⟨hl, ⟨h0, _⟩ | ⟨g', cap', cur, hv, hb, hg, r⟩⟩
    · cases h0
    · cases hv
      exact Bx.frozen (t := 2) hg i
theorem spec_any (A B : Option Addr) (n m ca cb : Nat) (c d : Nat → Int) (w : World) (hn : n ≤ 1048576) (hm : m ≤ 1048576) (hca : n ≤ ca) (hcb : m ≤ cb) (hr : RdK .i64 w w.heap.size A n c) (hs : RdK .i64 w w.heap.size B m d) :
    Calls Try.prog 56 #[.slice A n ca, .slice B m cb] w (FkPost n c m d w) := by
  have HH := Lib.hid (l05Both_any A B n m ca cb c d w hn hm hca hcb hr hs)
  have HR := Lib.hid hr
  have HS := Lib.hid hs
  obtain ⟨i0, hi, hz0, hz1, hz2⟩ := info_parts infoI64
  clear hr hs
  go_enter Try.func56, Try.ntmps56
  go_wp2_with fail
  refine HH.out.mono ?_
  rintro e W ⟨hb, r, hv, rfl⟩
  by_cases h0 : r = 0
  case neg =>
    have d0 : (r != 0) = true := by simpa using h0
    have HV := Lib.hid hv
    have H0 := Lib.hid h0
    clear hv h0
    go_wp2_with fail
    exact bodyPost_ret (results_tmp3 Try.results56 _ _ _) rfl ⟨al hb _, .inr ⟨r, H0.out, HV.out, _, rfl, OwnI.made _ hb.size⟩⟩
  subst h0
  have HV := Lib.hid hv
  obtain ⟨h10, hag⟩ := checkStacks.ok_of hv
  have HA := Lib.hid hag
  clear hv hag
  go_wp2_with fail
  have B0 : Below w.heap.size w ((W.alloc (.cells #[] 2)).alloc (.cells #[] 2)) := al (al hb _) _
  have O0 : OwnI ((W.alloc (.cells #[] 2)).alloc (.cells #[] 2)) w.heap.size (.slice (some ⟨W.heap.size, 0, none⟩) 0 0) [] := (OwnI.made _ hb.size).alloc _
  have T0 : OwnI ((W.alloc (.cells #[] 2)).alloc (.cells #[] 2)) w.heap.size (.slice (some ⟨W.heap.size + 1, 0, none⟩) 0 0) [] := by
    have := OwnI.made (base := w.heap.size) (W.alloc (.cells #[] 2)) (by simp; have := hb.size; omega)
    rwa [World.size_alloc] at this
  obtain ⟨W0, hW0⟩ : ∃ W0 : World, W0 = ((W.alloc (.cells #[] 2)).alloc (.cells #[] 2)) := ⟨_, rfl⟩
  rw [← hW0] at B0 O0 T0 ⊢
  clear hW0
  go_loopw [8, 9, 10, 11, 12] (fun t8 t9 t10 t11 t12 wr => ∃ k : Nat, k ≤ n ∧ t10 = .int .i64 k ∧ Below w.heap.size w wr ∧ OwnI wr w.heap.size t8 (fsL (tnF c m d) k) ∧ OwnI wr w.heap.size t9 (fsT (tnF c m d) k) ∧ (∃ g g' : Nat, t8.ownBlock = some g ∧ t9.ownBlock = some g' ∧ g ≠ g')) (fun t8 t9 t10 t11 t12 wr => n - (intOf t10).toNat)
  case atStart => exact ⟨0, by omega, rfl, B0, O0, T0, W.heap.size, W.heap.size + 1, rfl, rfl, by omega⟩
  case round =>
    clear B0 O0 T0
    obtain ⟨k, hk, rfl, B, O, T, g, g', hg, hg', hne⟩ := hrel
    obtain ⟨v0, rfl⟩ : ∃ v0 : Value, v0 = u8 := ⟨_, rfl⟩
    obtain ⟨t0, rfl⟩ : ∃ t0 : Value, t0 = u9 := ⟨_, rfl⟩
    by_cases hlt : k < n
    · have hki : (k : Int) < (n : Int) := by omega
      obtain ⟨b, off, rfl, hbl, c0⟩ := rdInt64 (HR.out.below B) hlt
      have hf := tnF_at HA.out hlt
      have htx : tnF c m d k = (tn d m (c k) : Int) := rfl
      obtain ⟨q, hq⟩ : ∃ q, q = tn d m (c k) := ⟨_, rfl⟩
      rw [← hq] at hf htx
      obtain ⟨u, hu⟩ : ∃ u, u = c k := ⟨_, rfl⟩
      rw [← hu] at hf c0
      have HF := Lib.hid hf
      have HTX := Lib.hid htx
      have hqm := hf.1
      clear hq hu hf htx
      obtain ⟨T1, hT1⟩ : ∃ T1, T1 = fsT (tnF c m d) k := ⟨_, rfl⟩
      have hTl := fsT_length (tnF c m d) k
      have hfl2 : (fsL (tnF c m d) k).length ≤ k := by rw [fsL_length]; exact Nat.le_refl _
      have hfl := fsL_succ (tnF c m d) k
      have hfs : fsS (tnF c m d) k = (fsAt T1 (q : Int) : Int) := by
        show ((fsAt (fsT (tnF c m d) k) (tnF c m d k) : Nat) : Int) = _
        rw [← hT1, HTX.out]
      have hto : fsT (tnF c m d) (k + 1) = fsTo T1 (q : Int) := by
        show fsTo (fsT (tnF c m d) k) (tnF c m d k) = _
        rw [← hT1, HTX.out]
      rw [← hT1] at hTl T
      rw [hfs] at hfl
      have HFL := Lib.hid hfl
      have HTO := Lib.hid hto
      have hO := Lib.hid O
      have hT := Lib.hid T
      have hG := Lib.hid (And.intro hg hg')
      have HNE := Lib.hid hne
      clear hT1 hfl hto hfs O T hg hg' hne
      go_wp2_with fail
      refine (where_at _ _ _ d u q _ hm ((HS.out.below B).mono B.size) HF.out).mono ?_
      rintro e w3 ⟨rfl, hw3⟩
      replace hw3 := hw3.symm
      subst hw3
      obtain ⟨At, capt, rfl⟩ := hT.out.shape
      obtain ⟨hNt, hrdt⟩ := hT.out.rd
      have HRT := Lib.hid hrdt
      have hal := fsAt_le T1 (q : Int)
      have hlow : ∀ j, j < fsAt T1 (q : Int) → T1.getD j 0 < (q : Int) := fun j hj => by
        obtain ⟨t, h1, h2⟩ := fsAt_lt hj
        rw [List.getD_eq_getElem?_getD, h1]
        exact h2
      have hat : fsAt T1 (q : Int) < T1.length → ¬ T1.getD (fsAt T1 (q : Int)) 0 < (q : Int) := fun hj => by
        obtain ⟨t, h1, h2⟩ := fsAt_at hj
        rw [List.getD_eq_getElem?_getD, h1]
        simp only [Option.getD_some]
        omega
      have hto2 : fsTo T1 (q : Int) = if fsAt T1 (q : Int) = T1.length then T1 ++ [(q : Int)] else T1.set (fsAt T1 (q : Int)) (q : Int) := rfl
      obtain ⟨a, ha⟩ : ∃ a, a = fsAt T1 (q : Int) := ⟨_, rfl⟩
      rw [← ha] at hal hlow hat hto2 HFL
      have HLOW := Lib.hid hlow
      have HAT := Lib.hid hat
      have HTO2 := Lib.hid hto2
      obtain ⟨L, hL⟩ : ∃ L, L = T1.length := ⟨_, rfl⟩
      rw [← hL] at hal hTl HRT HAT HTO2
      have HL := Lib.hid hL
      have HG : Hid (v0.ownBlock = some g ∧ (Value.slice At T1.length capt).ownBlock = some g') := hG
      rw [← hL] at HG hT ⊢
      clear hlow hat hto2 ha hL hNt hrdt hG c0
      go_wp2_with fail
      go_loopw [12] (fun t12 wr' => ∃ p : Nat, p ≤ a ∧ t12 = .int .i64 p ∧ wr' = wr) (fun t12 wr' => a - (intOf t12).toNat)
      case atStart => exact ⟨0, by omega, rfl, by first | trivial | rfl⟩
      case round =>
        obtain ⟨p, hp, rfl, rfl⟩ := hrel
        by_cases hpa : p < a
        · have hpl : p < L := by omega
          obtain ⟨b2, off2, rfl, hbl2, c1⟩ := rdInt64 HRT.out hpl
          have hlow := HLOW.out p hpa
          have hp0 : (0 : Int) ≤ (p : Int) := by omega
          have hpi : (p : Int) < (L : Int) := by omega
          have d1 : decide (p < L) = true := by simpa using hpl
          obtain ⟨y, hy⟩ : ∃ y, y = T1.getD p 0 := ⟨_, rfl⟩
          rw [← hy] at c1 hlow
          have d2 : decide (y < (q : Int)) = true := by simpa using hlow
          clear hy hlow
          go_wp2
          exact ⟨⟨p + 1, by omega, by first | go_num | simp, by first | trivial | rfl⟩, by simp [intOf]; omega⟩
        · obtain rfl : p = a := by omega
          have hgl : g < wr.heap.size := (hO.out.lt g HG.out.1).2
          by_cases hpl : p = L
          · have d1 : decide (p < L) = false := by simp; omega
            have d3 : ((p : Int) == (L : Int)) = true := by simp; omega
            have hL10 : L ≤ 10 := by omega
            have hTL : T1.length ≤ 10 := by rw [← HL.out]; exact hL10
            have HPL := Lib.hid hpl
            clear hpl
            go_upto_region 15 with (at_builtin; refine wpList_append_own_at _ rfl _ _ 29 rfl w.heap.size 2 i0 (.int .i64 0) 1 8 Try.underlying29 hi hz0 hz1 hz2 rfl (by decide) _ _ _ rfl (World.ownsRow.alloc hT.out _) ⟨wr.heap.size, 0, none⟩ 1 1 [.int .i64 (q : Int)] rfl rfl (ncells wr #[.int .i64 (q : Int)] 2) one64 (by have := B.size; unfold maxLen; omega) (by have := B.size; omega) (by have := B.size; simp; omega) ?_; intro v' w1 own' hgr _ hat)
            have hgr' : (wr.alloc (.cells #[.int .i64 (q : Int)] 2)).grownBy w1 (Value.slice At L capt).ownBlock := hgr
            have hat' : v'.ownBlock = (Value.slice At L capt).ownBlock ∨ v'.ownBlock = some (wr.alloc (.cells #[.int .i64 (q : Int)] 2)).heap.size := hat
            clear hgr hat
            have T4 := OwnI.snoc own'
            have O4 := (hO.out.alloc (.cells #[.int .i64 (q : Int)] 2)).kept hgr' (.inr (by rw [HG.out.1, HG.out.2]; intro e; injection e with e; exact HNE.out e))
            have B4 := (al B (.cells #[.int .i64 (q : Int)] 2)).grown hgr' (al B (.cells #[.int .i64 (q : Int)] 2)).size (fun k e => (hT.out.lt k e).1)
            have hlen1 : (T1 ++ [(q : Int)]).length = L + 1 := by rw [HL.out]; simp
            obtain ⟨g2, c2, hv4, hg21, hg22⟩ := own_some1 T4 (by omega)
            rw [hlen1] at hv4
            subst hv4
            have hne2 : g ≠ g2 := by
              have e2 : (Value.slice (some ⟨g2, 0, none⟩) (L + 1) c2).ownBlock = some g2 := rfl
              rw [e2] at hat'
              rcases hat' with e | e
              · rw [HG.out.2] at e
                injection e with e
                rw [e]; exact HNE.out
              · injection e with e
                have := hgl
                simp at e
                omega
            obtain ⟨x0, cc, cf⟩ := own_at T4 (show p < (T1 ++ [(q : Int)]).length by omega)
            have hset : (T1 ++ [(q : Int)]).set p (q : Int) = T1 ++ [(q : Int)] := by
              rw [HPL.out, HL.out, List.set_append_right _ _ (Nat.le_refl _)]
              simp
            have T5 := T4.set (show p < (T1 ++ [(q : Int)]).length by omega) (q : Int)
            rw [hset] at T5
            have O5 : OwnI (w1.setCell ⟨g2, p, none⟩ (.int .i64 (q : Int))) w.heap.size v0 (fsL (tnF c m d) k) := O4.kept (grown_set1 w1 g2 p _) (.inr (by rw [HG.out.1]; intro e; injection e with e; exact hne2 e))
            have B5 := B4.setCell (p := ⟨g2, p, none⟩) (by simpa using hg21) (.int .i64 (q : Int))
            have hp0 : (0 : Int) ≤ (p : Int) := by omega
            have hpi : (p : Int) < ((L + 1 : Nat) : Int) := by omega
            have hpi' : (p : Int) < (L : Int) + 1 := by omega
            have HT4 := Lib.hid T5
            have HO4 := Lib.hid O5
            have HGN := Lib.hid hne2
            obtain ⟨W4, hW4⟩ : ∃ W4 : World, W4 = w1.setCell ⟨g2, p, none⟩ (.int .i64 (q : Int)) := ⟨_, rfl⟩
            have hgl4 : g2 < W4.heap.size := by rw [hW4]; simpa using hg22
            rw [← hW4] at HT4 HO4 B5
            have HW4 := Lib.hid hW4
            clear T4 O4 T5 O5 B4 own' hgr' hat' B hset hlen1 hne2 hW4
            go_upto_region 16 with fail
            rw [← HW4.out]
            clear HW4 cc cf
            go_wp2_with (at_builtin; refine wpList_append_own_at _ rfl _ _ 29 rfl w.heap.size 2 i0 (.int .i64 0) 1 8 Try.underlying29 hi hz0 hz1 hz2 rfl (by decide) _ _ _ rfl (World.ownsRow.alloc HO4.out _) ⟨W4.heap.size, 0, none⟩ 1 1 [.int .i64 (p : Int)] rfl rfl (ncells W4 #[.int .i64 (p : Int)] 2) one64 (by have := B5.size; unfold maxLen; omega) (by have := B5.size; omega) (by have := B5.size; simp; omega) ?_; intro v' w1 own' hgr _ hat)
            have hgr2 : (W4.alloc (.cells #[.int .i64 (p : Int)] 2)).grownBy w1 v0.ownBlock := hgr
            have hat2 : v'.ownBlock = v0.ownBlock ∨ v'.ownBlock = some (W4.alloc (.cells #[.int .i64 (p : Int)] 2)).heap.size := hat
            clear hgr hat
            have O6 := OwnI.snoc own'
            have T6 := (HT4.out.alloc (.cells #[.int .i64 (p : Int)] 2)).kept hgr2 (.inr (by rw [HG.out.1]; intro e; injection e with e; exact HGN.out e.symm))
            have B6 := (al B5 (.cells #[.int .i64 (p : Int)] 2)).grown hgr2 (al B5 (.cells #[.int .i64 (p : Int)] 2)).size (fun k e => (HO4.out.lt k e).1)
            have hap : ∃ g1 g'' : Nat, v'.ownBlock = some g1 ∧ (Value.slice (some ⟨g2, 0, none⟩) (L + 1) c2).ownBlock = some g'' ∧ g1 ≠ g'' := by
              rcases hat2 with e | e
              · exact ⟨g, g2, by rw [e]; exact HG.out.1, rfl, HGN.out⟩
              · exact ⟨_, g2, e, rfl, by simp; omega⟩
            have HT5 := Lib.hid T6
            have HO5 := Lib.hid O6
            have HAP5 := Lib.hid hap
            have HB6 := Lib.hid B6
            clear T6 O6 hap own' hgr2 hat2 B5 B6
            have B5 := HB6.out
            go_wp2
            exact ⟨⟨k + 1, by omega, by first | go_num | simp, B5, by rw [HFL.out]; exact HO5.out, by rw [HTO.out, HTO2.out, if_pos HPL.out]; exact HT5.out, HAP5.out⟩, by simp [intOf]; omega⟩
          · have hpl' : p < L := by omega
            obtain ⟨gt, ct, hAt, hgt1, hgt2⟩ := own_some1 (w := wr) hT.out (by rw [← HL.out]; omega)
            have hgt : gt = g' := by
              have := HG.out.2
              injection hAt with e1 e2 e3
              rw [e1] at this
              injection this
            subst hgt
            injection hAt with e1 e2 e3
            subst e1
            subst e3
            clear e2
            obtain ⟨x0, cc, cf⟩ := own_at hT.out (show p < T1.length by rw [← HL.out]; exact hpl')
            obtain ⟨b2, off2, eb, hbl2, c1⟩ := rdInt64 HRT.out hpl'
            injection eb with eb
            injection eb with e4 e5 _
            subst e4 e5
            rw [Nat.zero_add] at c1
            have hp0 : (0 : Int) ≤ (p : Int) := by omega
            have hpi : (p : Int) < (L : Int) := by omega
            have d1 : decide (p < L) = true := by simpa using hpl'
            have d3 : ((p : Int) == (L : Int)) = false := by simp; omega
            have hnl := HAT.out hpl'
            obtain ⟨y, hy⟩ : ∃ y, y = T1.getD p 0 := ⟨_, rfl⟩
            rw [← hy] at c1 hnl
            have d2 : decide (y < (q : Int)) = false := by simpa using hnl
            have HPL := Lib.hid hpl
            have T4 := hT.out.set (show p < T1.length by rw [← HL.out]; exact hpl') (q : Int)
            have hgne : g ≠ gt := HNE.out
            have O4 : OwnI (wr.setCell ⟨gt, p, none⟩ (.int .i64 (q : Int))) w.heap.size v0 (fsL (tnF c m d) k) := hO.out.kept (grown_set1 wr gt p _) (.inr (by rw [HG.out.1]; intro e; injection e with e; exact hgne e))
            have B4 := B.setCell (p := ⟨gt, p, none⟩) (by simpa using hgt1) (.int .i64 (q : Int))
            have HT4 := Lib.hid T4
            have HO4 := Lib.hid O4
            obtain ⟨W4, hW4⟩ : ∃ W4 : World, W4 = wr.setCell ⟨gt, p, none⟩ (.int .i64 (q : Int)) := ⟨_, rfl⟩
            have hgl4 : gt < W4.heap.size := by rw [hW4]; simpa using hgt2
            rw [← hW4] at HT4 HO4 B4
            have HW4 := Lib.hid hW4
            clear hy hnl hpl T4 O4 cc hW4
            go_upto_region 16 with fail
            rw [← HW4.out]
            clear HW4 c1 cf
            go_wp2_with (at_builtin; refine wpList_append_own_at _ rfl _ _ 29 rfl w.heap.size 2 i0 (.int .i64 0) 1 8 Try.underlying29 hi hz0 hz1 hz2 rfl (by decide) _ _ _ rfl (World.ownsRow.alloc HO4.out _) ⟨W4.heap.size, 0, none⟩ 1 1 [.int .i64 (p : Int)] rfl rfl (ncells W4 #[.int .i64 (p : Int)] 2) one64 (by have := B4.size; unfold maxLen; omega) (by have := B4.size; omega) (by have := B4.size; simp; omega) ?_; intro v' w1 own' hgr _ hat)
            have hgr2 : (W4.alloc (.cells #[.int .i64 (p : Int)] 2)).grownBy w1 v0.ownBlock := hgr
            have hat2 : v'.ownBlock = v0.ownBlock ∨ v'.ownBlock = some (W4.alloc (.cells #[.int .i64 (p : Int)] 2)).heap.size := hat
            clear hgr hat
            have O5 := OwnI.snoc own'
            have T5 := (HT4.out.alloc (.cells #[.int .i64 (p : Int)] 2)).kept hgr2 (.inr (by rw [HG.out.1]; intro e; injection e with e; exact hgne e.symm))
            have B5 := (al B4 (.cells #[.int .i64 (p : Int)] 2)).grown hgr2 (al B4 (.cells #[.int .i64 (p : Int)] 2)).size (fun k e => (HO4.out.lt k e).1)
            have hap : ∃ g1 g'' : Nat, v'.ownBlock = some g1 ∧ (Value.slice (some ⟨gt, 0, none⟩) L capt).ownBlock = some g'' ∧ g1 ≠ g'' := by
              rcases hat2 with e | e
              · exact ⟨g, gt, by rw [e]; exact HG.out.1, rfl, hgne⟩
              · exact ⟨_, gt, e, rfl, by simp; omega⟩
            have HT5 := Lib.hid T5
            have HO5 := Lib.hid O5
            have HAP5 := Lib.hid hap
            clear T5 O5 hap own' hgr2 hat2 B4
            go_wp2
            exact ⟨⟨k + 1, by omega, by first | go_num | simp, B5, by rw [HFL.out]; exact HO5.out, by rw [HTO.out, HTO2.out, if_neg HPL.out]; exact HT5.out, HAP5.out⟩, by simp [intOf]; omega⟩
    · obtain rfl : k = n := by omega
      have hki : ¬ ((k : Int) < (k : Int)) := by omega
      obtain ⟨At, capt, rfl⟩ := T.shape
      go_wp2_with fail
      exact bodyPost_ret (results_tmp3 Try.results56 _ _ _) rfl ⟨B, .inl ⟨HV.out, _, rfl, O⟩⟩

theorem both (n : Nat) (c : Nat → Int) (m : Nat) (d : Nat → Int) (hc : ∀ j, (Lit.int .i64 (c j)).wf = true) (hn : n ≤ 1048576) (hd : ∀ j, (Lit.int .i64 (d j)).wf = true) (hm : m ≤ 1048576) :
    ∃ (nn : Nat) (ff : Nat → Int) (z1 z2 : Int), nn ≤ 1000 ∧
      (∀ (W : World) (G0 G1 : Nat), Ar W G0 n c → Ar W G1 m d → Calls Try.prog 56 #[.slice (some ⟨G0, 0, none⟩) n n, .slice (some ⟨G1, 0, none⟩) m m] W fun e w' => Below W.heap.size W w' ∧ ∃ v, e = .returned (.tuple #[v, .int .i64 z1, .int .i64 z2]) ∧ HasSlice .i64 1 w' W.heap.size v nn ff) ∧
      (∀ (W : World) (G0 G1 : Nat), Ar W G0 n c → Ar W G1 m d → Calls Try.prog 57 #[.slice (some ⟨G0, 0, none⟩) n n, .slice (some ⟨G1, 0, none⟩) m m] W fun e w' => Below W.heap.size W w' ∧ ∃ v, e = .returned (.tuple #[v, .int .i64 z1, .int .i64 z2]) ∧ HasSlice .i64 1 w' W.heap.size v nn ff) := by
  have key : ∀ r, StCode n c m d r → ∃ (nn : Nat) (ff : Nat → Int) (z1 z2 : Int), nn ≤ 1000 ∧ ∀ (W : World) (e : Ending) (w' : World), FkPost n c m d W e w' → Below W.heap.size W w' ∧ ∃ v, e = .returned (.tuple #[v, .int .i64 z1, .int .i64 z2]) ∧ HasSlice .i64 1 w' W.heap.size v nn ff := by
    intro r hr
    by_cases h0 : r = 0
    · subst h0
      refine ⟨(fsL (tnF c m d) n).length, fun j => (fsL (tnF c m d) n).getD j 0, ((fsT (tnF c m d) n).length : Int), 0, ?_, fun W e w' ⟨hb, hp⟩ => ?_⟩
      rotate_left
      · rcases hp with ⟨_, v, rfl, O⟩ | ⟨r, hr0, hr', _⟩
        · exact ⟨hb, v, rfl, O.has⟩
        · exact absurd (hr'.one hr) hr0
      · rw [fsL_length]; have := (checkStacks.ok_of hr).1; omega
    · refine ⟨([] : List Int).length, fun j => ([] : List Int).getD j 0, 0, r, ?_, fun W e w' ⟨hb, hp⟩ => ?_⟩
      rotate_left
      · rcases hp with ⟨hr', _⟩ | ⟨r', _, hr', v, rfl, O⟩
        · exact absurd (hr.one hr') h0
        · obtain rfl := hr.one hr'
          exact ⟨hb, v, rfl, O.has⟩
      · simp
  obtain ⟨r, hr⟩ : ∃ r, StCode n c m d r := by
    by_cases h1 : n ≤ 10
    · by_cases h2 : Again n c m d
      · exact ⟨0, .inr (.inr ⟨h1, h2, rfl⟩)⟩
      · exact ⟨4, .inr (.inl ⟨h1, h2, rfl⟩)⟩
    · exact ⟨3, .inl ⟨by omega, rfl⟩⟩
  obtain ⟨nn, ff, z1, z2, hnn, hk⟩ := key r hr
  exact ⟨nn, ff, z1, z2, hnn, fun W G0 G1 h0 h1 => (spec_any _ _ n m n m c d W hn hm (Nat.le_refl _) (Nat.le_refl _) h0.rd h1.rd).mono (hk W),
    fun W G0 G1 h0 h1 => (impl_any _ _ n m n m c d W hn hm (Nat.le_refl _) (Nat.le_refl _) h0.rd h1.rd).mono (hk W)⟩
end fewestStacks
end Go.Proofs.Ytkggimalkjjnoaa
