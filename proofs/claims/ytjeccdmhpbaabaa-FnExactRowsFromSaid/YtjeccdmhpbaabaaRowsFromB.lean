/-
  Both sides of RowsFrom answer the same. Conditions stand at each.
-/
import Derived.Test.YtjeccdmhpbaabaaRows
import Derived.Test.YtjeccdmhpbaabaaRowsS
namespace Go.Proofs.Ytjeccdmhpbaabaa
open Go Go.ChangeShapes Go.WideShapes Go.ChangeAt Go.RowKit
set_option linter.unusedVariables false
set_option linter.unusedSimpArgs false
set_option maxRecDepth 100000
set_option maxHeartbeats 2000000

theorem implRows_any (A : Option Addr) (n : Nat) (c d : Nat → Int) (l k : Int) (w : World) (hn : n ≤ 1048576) (hr : RdS w w.heap.size A n c d) (hc : ∀ j, -128 ≤ c j ∧ c j ≤ 127) (hd : ∀ j, -32768 ≤ d j ∧ d j ≤ 32767) :
    Calls Try.prog 69 #[.slice A n n, .int .i64 l, .int .i64 k] w (RowsP n c k (l + k).toNat d (JointOk k ∧ LongOk l) w) := by
  have HR := Lib.hid hr
  have HC := Lib.hid hc
  have HD := Lib.hid hd
  clear hr hc hd
  obtain ⟨L, hLt⟩ : ∃ L, L = (l + k).toNat := ⟨_, rfl⟩
  rw [← hLt]
  have HLt := Lib.hid hLt
  clear hLt
  go_enter Try.func69, Try.ntmps69
  go_wp2_with fail
  obtain ⟨W0, hW0⟩ : ∃ W0 : World, W0 = w.alloc (.cells #[.int .i64 l] 2) := ⟨_, rfl⟩
  have B0 : Below w.heap.size w W0 := by rw [hW0]; exact al (Below.refl _ _) _
  have R0 : RdK .i64 W0 W0.heap.size (some ⟨w.heap.size, 0, none⟩) 1 (fun _ => l) := by
    rw [hW0]
    refine fun _ => ⟨w.heap.size, 0, rfl, by simp, fun j hj => ?_⟩
    obtain rfl : j = 0 := by omega
    rw [cell_of_row _ _ 0 _ _ _ (heap_alloc_new w _)]; rfl
  rw [← hW0]
  clear hW0
  refine (codeOfRows_any A _ n n 1 1 c d (fun _ => l) k _ hn (by omega) ((HR.out.below B0).mono B0.size) R0 HC.out HD.out).mono ?_
  rintro e w2 ⟨hb, ⟨h, h', rfl⟩ | ⟨h, rfl⟩ | ⟨h, h', rfl⟩⟩
  case inr.inl =>
    have H2 := Lib.hid h
    have B2 := nxt B0 hb
    clear h R0 hb
    go_wp2_with fail
    go_ret2
    exact ⟨B2, .inr (.inl ⟨H2.out, rfl⟩)⟩
  case inr.inr =>
    have H2 := Lib.hid h
    have H3 := Lib.hid h'
    have B2 := nxt B0 hb
    clear h h' R0 hb
    go_wp2_with fail
    go_ret2
    exact ⟨B2, .inr (.inr ⟨H2.out, fun h => H3.out ⟨h.1, fun _ _ => h.2⟩, rfl⟩)⟩
  have H2 := Lib.hid h
  have H := Lib.hid (h'.2 0 (by omega))
  have H1 := Lib.hid h'.1
  have hb := nxt B0 hb
  clear h h' R0 B0
  have hl := H.out
  have hk := H1.out
  unfold LongOk at hl
  unfold JointOk at hk
  have hL : l + k = (L : Int) := by rw [HLt.out]; omega
  have hL1 : 1 ≤ L := by omega
  have HL := Lib.hid hL
  clear hL hl hk
  have h1 := H2.out.1.1
  have h6 := H2.out.1.2
  obtain ⟨b, off, eA, _, _⟩ := HR.out (by omega)
  subst eA
  go_wp2_with fail
  refine (cloneS_any b off n n c d w2 h1 h6 ((HR.out.below hb).mono hb.size)).mono ?_
  rintro e w3 ⟨B1, g, cp, rfl, hg, hA⟩
  have B3 := nxt hb B1
  have hg2 : w.heap.size ≤ g := Nat.le_trans hb.size hg
  have HB3 := Lib.hid B3
  have HA := Lib.hid hA
  clear B1 hA B3 hb hg
  go_wp2_with fail
  go_loopw [10, 11, 12, 13, 14] (fun t10 t11 t12 t13 t14 wr => ∃ m : Nat, (∀ j, j < m → 0 ≤ tN n c k L d j) ∧ t10 = .int .i64 m ∧ Below w.heap.size w wr ∧ As wr g n c (dN n c k L d m)) (fun t10 t11 t12 t13 t14 wr => 400 - (intOf t10).toNat)
  case atStart => exact ⟨0, fun j hj => by omega, rfl, HB3.out, HA.out⟩
  case round =>
    clear HB3 HA
    obtain ⟨m, hm, rfl, hB, hA⟩ := hrel
    obtain ⟨wo, rfl⟩ : ∃ wo : World, wo = wr := ⟨_, rfl⟩
    have hinv := rows_inv H1.out hL1 H2.out.e m hm
    have h360 := rows_360 H1.out hL1 H2.out.e hm
    obtain ⟨e, he⟩ : ∃ e, e = dN n c k L d m := ⟨_, rfl⟩
    have hstep : 0 ≤ tN n c k L d m → EOk n c (dN n c k L d (m + 1)) := fun h => (row_step H1.out hL1 hinv.1 h).1
    rw [← he] at hA hinv
    have hfill := fillingOf_any (some ⟨g, 0, none⟩) n cp c e l k L wo hinv.1 H1.out H.out HL.out hA.rd
    have htb := (FF_TT (bF n c k) (qF n e) n 0 L h6 (qF_60 hinv.1)).2
    obtain ⟨t, ht⟩ : ∃ t, t = TT (bF n c k) (qF n e) n 0 L := ⟨_, rfl⟩
    rw [← ht] at hfill htb
    have htN : tN n c k L d m = t := by rw [ht, he]; rfl
    have HF := Lib.hid hfill
    have HA := Lib.hid hA
    have HB := Lib.hid hB
    have HM := Lib.hid hm
    have HTN := Lib.hid htN
    have HE := Lib.hid he
    have HI := Lib.hid hinv.1
    have HST := Lib.hid hstep
    clear hfill hA hB hm htN he hinv ht hstep
    go_wp2_with fail
    refine HF.out.mono ?_
    rintro e' w5 ⟨hb5, ⟨ht, rfl⟩ | ⟨ht, v, rfl, O⟩⟩
    · have B5 := nxt HB.out hb5
      clear hb5
      go_wp2_with fail
      go_ret2
      exact ⟨B5, .inl ⟨H2.out, ⟨H1.out, H.out⟩, m, ⟨HM.out, by rw [HTN.out]; exact ht⟩, rfl⟩⟩
    · obtain ⟨A5, cp5, rfl⟩ := O.shape
      have hkn := kL_length (bF n c k) (qF n e) n L n
      have R5 := O.rdI
      rw [hkn] at R5 ⊢
      have hz5 := hb5.size
      have A5' := HA.out.below hb5
      have B5 := nxt HB.out hb5
      have hglt := HA.out.1
      have hnext := (HST.out (by rw [HTN.out]; exact ht)).2
      have hdn : ∀ j, j < n → dN n c k L d (m + 1) j = e j - (kN (bF n c k) (qF n e) n L j : Int) := fun j hj => by
        rw [HE.out]
        show (if j < n then _ else _) = _
        rw [if_pos hj]
      have HR5 := Lib.hid R5
      have HA5 := Lib.hid A5'
      have HB5 := Lib.hid B5
      have HNX := Lib.hid hnext
      have HDN := Lib.hid hdn
      have hne : (t == 361) = false := by simp; omega
      clear O hkn R5 A5' B5 hb5 hnext hdn
      go_wp2_with fail
      go_loopw [13, 14, 39] (fun t13 t14 t39 wr => ∃ j : Nat, j ≤ n ∧ t39 = .int .i64 j ∧ Below w.heap.size w wr ∧ As wr g n c (fun i => if i < j then dN n c k L d (m + 1) i else e i) ∧ Still wo.heap.size w5.heap.size w5 wr) (fun t13 t14 t39 wr => n - (intOf t39).toNat)
      case atStart => exact ⟨0, Nat.zero_le _, rfl, HB5.out, HA5.out.congr fun j _ => by rw [if_neg (by omega)], Still.refl _⟩
      case round =>
        clear HA5 HB5
        obtain ⟨j, hj, rfl, hB, hA, hS⟩ := hrel
        obtain ⟨wq, rfl⟩ : ∃ wq : World, wq = wr := ⟨_, rfl⟩
        have HBq := Lib.hid hB
        have HAq := Lib.hid hA
        have HSq := Lib.hid hS
        clear hB hA hS
        by_cases hlt : j < n
        · have hlti : (j : Int) < (n : Int) := by omega
          obtain ⟨⟨c0, c1⟩, f0, f1⟩ := HAq.out.2 j hlt
          dsimp only at c1
          rw [if_neg (by omega)] at c1
          obtain ⟨b5, off5, e5, _, _, hc5⟩ := (HR5.out.still HSq.out) (by omega)
          subst e5
          have ck : wq.cell? ⟨b5, off5 + j, none⟩ = some (.int .i64 ((kL (bF n c k) (qF n e) n L n).getD j 0)) := hc5 j hlt
          rw [kL_get hlt] at ck
          have hd1 := HDN.out j hlt
          have hd2 := (HNX.out j hlt).2
          have hE := (HI.out.2 j hlt).2
          obtain ⟨x, hx⟩ : ∃ x, x = e j := ⟨_, rfl⟩
          obtain ⟨y, hy⟩ : ∃ y : Int, y = (kN (bF n c k) (qF n e) n L j : Int) := ⟨_, rfl⟩
          have hy0 : 0 ≤ y := by rw [hy]; exact Int.natCast_nonneg _
          rw [← hx] at c1 hd1 hE
          rw [← hy] at ck hd1
          rw [hd1] at hd2
          have v1 : IntKind.i16.wrap y = y := IntWalk.i16_in _ (by omega)
          have v2 : IntKind.i16.wrap (x - y) = x - y := IntWalk.i16_in _ (by omega)
          have HD1 := Lib.hid hd1
          clear hx hy hd1 hc5
          go_wp2_with fail
          have A7 : As (wq.setCell ⟨g, j * 2 + 1, none⟩ (.int .i16 (x - y))) g n c (fun i => if i < j + 1 then dN n c k L d (m + 1) i else e i) := (HAq.out.set2 hlt (x - y)).congr fun i hi => by
            by_cases e1 : i = j
            · subst e1; rw [if_pos rfl, if_pos (by omega), HD1.out]
            · rw [if_neg e1]
              by_cases e2 : i < j
              · rw [if_pos e2, if_pos (by omega)]
              · rw [if_neg e2, if_neg (by omega)]
          have S7 : Still wo.heap.size w5.heap.size w5 (wq.setCell ⟨g, j * 2 + 1, none⟩ (.int .i16 (x - y))) := HSq.out.set hglt _
          exact ⟨⟨j + 1, by omega, by first | go_num | simp, HBq.out.setCell (p := ⟨g, j * 2 + 1, none⟩) hg2 _, A7, S7⟩, by simp [intOf]; omega⟩
        · obtain rfl : j = n := by omega
          have hlti : ¬ (j : Int) < (j : Int) := by omega
          have A7 : As wq g j c (dN j c k L d (m + 1)) := HAq.out.congr fun i hi => by rw [if_pos hi]
          have hm1 : ∀ i, i < m + 1 → 0 ≤ tN j c k L d i := fun i hi => by
            by_cases e1 : i = m
            · subst e1; rw [HTN.out]; exact ht
            · exact HM.out i (by omega)
          have HM1 := Lib.hid hm1
          clear hm1
          go_wp2_with fail
          exact ⟨⟨m + 1, HM1.out, by first | go_num | simp, HBq.out, A7⟩, by simp [intOf]; omega⟩

namespace rowsFrom
theorem both (n : Nat) (c d : Nat → Int) (l k : Int) (hc : ∀ j, -128 ≤ c j ∧ c j ≤ 127) (hd : ∀ j, -32768 ≤ d j ∧ d j ≤ 32767) (hn : n ≤ 1048576) (bl : (Lit.int .i64 l).wf = true) (bk : (Lit.int .i64 k).wf = true) :
    ∃ (z1 z2 : Int),
      (∀ (W : World) (G0 : Nat), As W G0 n c d → Calls Try.prog 68 #[.slice (some ⟨G0, 0, none⟩) n n, .int .i64 l, .int .i64 k] W fun e w' => e = .returned (.tuple #[.int .i64 z1, .int .i64 z2]) ∧ Below W.heap.size W w') ∧
      (∀ (W : World) (G0 : Nat), As W G0 n c d → Calls Try.prog 69 #[.slice (some ⟨G0, 0, none⟩) n n, .int .i64 l, .int .i64 k] W fun e w' => e = .returned (.tuple #[.int .i64 z1, .int .i64 z2]) ∧ Below W.heap.size W w') := by
  have hS := fun (W : World) (G : Nat) (R : As W G n c d) => specRows_any _ n c d l k W hn R.rd hc hd
  have hI := fun (W : World) (G : Nat) (R : As W G n c d) => implRows_any _ n c d l k W hn R.rd hc hd
  by_cases h1 : SOk n c d
  · by_cases h2 : JointOk k ∧ LongOk l
    · obtain ⟨m, hm⟩ := goodR_is (n := n) (c := c) (k := k) (L := (l + k).toNat) (d := d) h2.1 (by have := h2.1; have := h2.2; unfold JointOk at *; unfold LongOk at *; omega) h1.e
      refine ⟨m, 0, fun W G R => (hS W G R).mono ?_, fun W G R => (hI W G R).mono ?_⟩
      all_goals
        rintro e w' ⟨hb, ⟨_, _, m', hm', rfl⟩ | ⟨h, _⟩ | ⟨_, h, _⟩⟩
        · exact ⟨by rw [goodR_one hm hm'], hb⟩
        · exact absurd h1 h
        · exact absurd h2 h
    · refine ⟨0, 2, fun W G R => (hS W G R).mono ?_, fun W G R => (hI W G R).mono ?_⟩
      all_goals
        rintro e w' ⟨hb, ⟨_, h, _⟩ | ⟨h, _⟩ | ⟨_, _, rfl⟩⟩
        · exact absurd h h2
        · exact absurd h1 h
        · exact ⟨rfl, hb⟩
  · refine ⟨0, 1, fun W G R => (hS W G R).mono ?_, fun W G R => (hI W G R).mono ?_⟩
    all_goals
      rintro e w' ⟨hb, ⟨h, _⟩ | ⟨_, rfl⟩ | ⟨h, _⟩⟩
      · exact absurd h h1
      · exact ⟨rfl, hb⟩
      · exact absurd h h1
end rowsFrom
end Go.Proofs.Ytjeccdmhpbaabaa
