/-
  The contract of spec.RowsFrom. Conditions stand at each.
-/
import Derived.StillTailTactics
import Derived.Test.YtjeccdmhpbaabaaRows
import Derived.Test.YtjeccdmhpbaabaaFillS
import Derived.Test.YtjeccdmhpbaabaaRowsM
import Derived.Test.YtjeccdmhpbaabaaOwnSett
import Derived.Test.YtjeccdmhpbaabaaOwnAt
namespace Go.Proofs.Ytjeccdmhpbaabaa
open Go Go.ChangeShapes Go.WideShapes Go.ChangeAt Go.RowKit
set_option linter.unusedVariables false
set_option linter.unusedSimpArgs false
set_option maxRecDepth 100000
set_option maxHeartbeats 2000000

/-- what RowsFrom answers. -/
def RowsP (n : Nat) (c : Nat → Int) (k : Int) (L : Nat) (d : Nat → Int) (f : Prop) (w : World) (e : Ending) (w' : World) : Prop :=
  Below w.heap.size w w' ∧ ((SOk n c d ∧ f ∧ ∃ m : Nat, goodR n c k L d m ∧ e = .returned (.tuple #[.int .i64 (m : Int), .int .i64 0])) ∨ (¬ SOk n c d ∧ e = .returned (.tuple #[.int .i64 0, .int .i64 1])) ∨ (SOk n c d ∧ ¬ f ∧ e = .returned (.tuple #[.int .i64 0, .int .i64 2])))
theorem As.set2 {w : World} {g n j : Nat} {c d : Nat → Int} (h : As w g n c d) (hj : j < n) (v : Int) : As (w.setCell ⟨g, j * 2 + 1, none⟩ (.int .i16 v)) g n c (fun i => if i = j then v else d i) := by
  refine ⟨by simpa using h.1, fun i hi => ?_⟩
  obtain ⟨⟨h1, h2⟩, h3, h4⟩ := h.2 i hi
  dsimp only
  refine ⟨⟨?_, ?_⟩, by rw [World.frozen?_setCell]; exact h3, by rw [World.frozen?_setCell]; exact h4⟩
  · rw [World.cell?_setCell_other _ _ _ _ (fun he => by injection he; omega)]; exact h1
  · by_cases e : i = j
    · subst e
      rw [if_pos rfl]
      exact World.cell?_setCell_same' _ _ _ (by rw [h2]; rfl)
    · rw [if_neg e, World.cell?_setCell_other _ _ _ _ (fun he => e (by injection he; omega))]; exact h2
theorem As.congr {w : World} {g n : Nat} {c d d' : Nat → Int} (h : As w g n c d) (e : ∀ j, j < n → d j = d' j) : As w g n c d' := ⟨h.1, h.2.congr fun j hj => ⟨rfl, e j hj⟩⟩

theorem Still.set {lo hi g o : Nat} {w a : World} (h : Still lo hi w a) (hg : g < lo) (v : Value) : Still lo hi w (a.setCell ⟨g, o, none⟩ v) := fun k h1 h2 => (Below.heap_setCell a _ _ _ (by show k ≠ g; omega)).trans (h k h1 h2)
theorem kL_get {b q : Nat → Nat} {n L m j : Nat} (h : j < m) : (kL b q n L m).getD j 0 = (kN b q n L j : Int) := by
  unfold kL
  rw [List.getD_eq_getElem?_getD, List.getElem?_map, List.getElem?_range h]
  rfl

theorem specRows_any (A : Option Addr) (n : Nat) (c d : Nat → Int) (l k : Int) (w : World) (hn : n ≤ 1048576) (hr : RdS w w.heap.size A n c d) (hc : ∀ j, -128 ≤ c j ∧ c j ≤ 127) (hd : ∀ j, -32768 ≤ d j ∧ d j ≤ 32767) :
    Calls Try.prog 68 #[.slice A n n, .int .i64 l, .int .i64 k] w (RowsP n c k (l + k).toNat d (JointOk k ∧ LongOk l) w) := by
  have HR := Lib.hid hr
  have HC := Lib.hid hc
  have HD := Lib.hid hd
  clear hr hc hd
  obtain ⟨L, hLt⟩ : ∃ L, L = (l + k).toNat := ⟨_, rfl⟩
  rw [← hLt]
  have HLt := Lib.hid hLt
  clear hLt
  go_enter Try.func68, Try.ntmps68
  go_wp2_with fail
  refine (l03Long_any l _).mono ?_
  rintro e w1 ⟨hw, ⟨h, rfl⟩ | ⟨h, rfl⟩⟩
  case inr =>
    have H := Lib.hid h
    replace hw := hw.symm
    subst hw
    clear h
    go_wp2_with fail
    refine (asked_any A n n c d false _ hn HR.out HC.out HD.out).mono ?_
    rintro e w2 ⟨hb, ⟨h, h', _⟩ | ⟨h, rfl⟩ | ⟨h, _, rfl⟩⟩
    · exact absurd h' (by simp)
    · have H2 := Lib.hid h
      clear h
      go_wp2_with fail
      go_ret2
      exact ⟨hb, .inr (.inl ⟨H2.out, rfl⟩)⟩
    · have H2 := Lib.hid h
      clear h
      go_wp2_with fail
      go_ret2
      exact ⟨hb, .inr (.inr ⟨H2.out, fun h => H.out h.2, rfl⟩)⟩
  have H := Lib.hid h
  replace hw := hw.symm
  subst hw
  clear h
  go_wp2_with fail
  refine (l03Joint_any k _).mono ?_
  rintro e w1 ⟨hw, ⟨h, rfl⟩ | ⟨h, rfl⟩⟩
  case inr =>
    have H1 := Lib.hid h
    replace hw := hw.symm
    subst hw
    clear h
    go_wp2_with fail
    refine (asked_any A n n c d false _ hn HR.out HC.out HD.out).mono ?_
    rintro e w2 ⟨hb, ⟨h, h', _⟩ | ⟨h, rfl⟩ | ⟨h, _, rfl⟩⟩
    · exact absurd h' (by simp)
    · have H2 := Lib.hid h
      clear h
      go_wp2_with fail
      go_ret2
      exact ⟨hb, .inr (.inl ⟨H2.out, rfl⟩)⟩
    · have H2 := Lib.hid h
      clear h
      go_wp2_with fail
      go_ret2
      exact ⟨hb, .inr (.inr ⟨H2.out, fun h => H1.out h.1, rfl⟩)⟩
  have H1 := Lib.hid h
  replace hw := hw.symm
  subst hw
  clear h
  go_wp2_with fail
  refine (asked_any A n n c d true _ hn HR.out HC.out HD.out).mono ?_
  rintro e w2 ⟨hb, ⟨h, _, rfl⟩ | ⟨h, rfl⟩ | ⟨_, h', _⟩⟩
  case inr.inr => exact absurd rfl h'
  case inr.inl =>
    have H2 := Lib.hid h
    clear h
    go_wp2_with fail
    go_ret2
    exact ⟨hb, .inr (.inl ⟨H2.out, rfl⟩)⟩
  have H2 := Lib.hid h
  clear h
  have hl := H.out
  have hk := H1.out
  unfold LongOk at hl
  unfold JointOk at hk
  have hL : l + k = (L : Int) := by rw [HLt.out]; omega
  have hL1 : 1 ≤ L := by omega
  have HL := Lib.hid hL
  clear hL hl hk
  have h1 := H2.out.1.1
  have h6 := H2.out.1.2
  obtain ⟨i0, hi, hz0, hz1, hz2⟩ := info_parts infoSett
  obtain ⟨b, off, eA, _, _⟩ := HR.out (by omega)
  subst eA
  have hb1 := al (Below.refl w2.heap.size w2) (.cells #[] 89)
  have R1 := Lib.hid (((HR.out.below hb).mono hb.size).below hb1)
  go_wp2_with (at_builtin; refine wpList_append_own _ rfl _ _ 25 rfl w2.heap.size 89 i0 (.agg #[.int .i8 0, .int .i16 0]) 2 4 Try.underlying25 hi hz0 hz1 hz2 rfl (by decide) _ _ _ rfl (World.ownsRow_made w2 #[] 0 (Nat.le_refl _) (Nat.zero_le _) rfl) ⟨b, off, none⟩ n n (settsV n c d) rfl (settsV_length n c d) (setts_news R1.out) settsV_one (by unfold maxLen; omega) (by omega) (by simp) ?_; intro v' w3 own' hgr _)
  rw [Nat.zero_add, List.nil_append] at own'
  have hgr2 : (w2.alloc (.cells #[] 89)).grownBy w3 (some w2.heap.size) := hgr
  have B1 : Below w2.heap.size w2 w3 := hb1.grown hgr2 (by simp) (fun k e => by injection e with e; omega)
  obtain ⟨g, cp, rfl, hg, hA⟩ := setts_own h1 own'
  have B3 := nxt hb B1
  have hg2 : w.heap.size ≤ g := Nat.le_trans hb.size hg
  have HB3 := Lib.hid B3
  have HA := Lib.hid hA
  clear own' hgr hgr2 B1 hb1 hA B3 hb hg
  go_wp2_with fail
  go_loopw [10, 11, 12, 13, 14] (fun t10 t11 t12 t13 t14 wr => ∃ m : Nat, (∀ j, j < m → 0 ≤ tN n c k L d j) ∧ t10 = .int .i64 m ∧ Below w.heap.size w wr ∧ As wr g n c (dN n c k L d m)) (fun t10 t11 t12 t13 t14 wr => 400 - (intOf t10).toNat)
  case atStart => exact ⟨0, fun j hj => by omega, rfl, HB3.out, HA.out⟩
  case round =>
    clear HB3 HA
    obtain ⟨m, hm, rfl, hB, hA⟩ := hrel
    obtain ⟨wo, rfl⟩ : ∃ wo : World, wo = wr := ⟨_, rfl⟩
    have hinv := rows_inv H1.out hL1 H2.out.e m hm
    have h360 := rows_360 H1.out hL1 H2.out.e hm
    obtain ⟨e, he⟩ : ∃ e, e = dN n c k L d m := ⟨_, rfl⟩
    have hstep : 0 ≤ tN n c k L d m → EOk n c (dN n c k L d (m + 1)) := fun h => (row_step H1.out hL1 hinv.1 h).1
    rw [← he] at hA hinv
    have hfill := l03Fill_any (some ⟨g, 0, none⟩) n cp c e l k L wo hinv.1 H1.out H.out HL.out hA.rd
    obtain ⟨t, ht⟩ : ∃ t, t = TT (bF n c k) (qF n e) n 0 L := ⟨_, rfl⟩
    rw [← ht] at hfill
    have htN : tN n c k L d m = t := by rw [ht, he]; rfl
    have HF := Lib.hid hfill
    have HA := Lib.hid hA
    have HB := Lib.hid hB
    have HM := Lib.hid hm
    have HTN := Lib.hid htN
    have HE := Lib.hid he
    have HI := Lib.hid hinv.1
    have HST := Lib.hid hstep
    clear hfill hA hB hm htN he hinv ht hstep
    go_wp2_with fail
    refine HF.out.mono ?_
    rintro e' w5 ⟨hb5, ⟨ht, v, rfl, O⟩ | ⟨ht, v, rfl, O⟩⟩
    · have B5 := nxt HB.out hb5
      clear O hb5
      go_wp2_with fail
      go_ret2
      exact ⟨B5, .inl ⟨H2.out, ⟨H1.out, H.out⟩, m, ⟨HM.out, by rw [HTN.out]; exact ht⟩, rfl⟩⟩
    · obtain ⟨A5, cp5, rfl⟩ := O.shape
      have hkn := kL_length (bF n c k) (qF n e) n L n
      have R5 := O.rdI
      rw [hkn] at R5 ⊢
      have hz5 := hb5.size
      have A5' := HA.out.below hb5
      have B5 := nxt HB.out hb5
      have hglt := HA.out.1
      have hnext := (HST.out (by rw [HTN.out]; exact ht)).2
      have hdn : ∀ j, j < n → dN n c k L d (m + 1) j = e j - (kN (bF n c k) (qF n e) n L j : Int) := fun j hj => by
        rw [HE.out]
        show (if j < n then _ else _) = _
        rw [if_pos hj]
      have HR5 := Lib.hid R5
      have HA5 := Lib.hid A5'
      have HB5 := Lib.hid B5
      have HNX := Lib.hid hnext
      have HDN := Lib.hid hdn
      clear O hkn R5 A5' B5 hb5 hnext hdn
      go_wp2_with fail
      go_loopw [14] (fun t14 wr => ∃ j : Nat, j ≤ n ∧ t14 = .int .i64 j ∧ Below w.heap.size w wr ∧ As wr g n c (fun i => if i < j then dN n c k L d (m + 1) i else e i) ∧ Still wo.heap.size w5.heap.size w5 wr) (fun t14 wr => n - (intOf t14).toNat)
      case atStart => exact ⟨0, Nat.zero_le _, rfl, HB5.out, HA5.out.congr fun j _ => by rw [if_neg (by omega)], Still.refl _⟩
      case round =>
        clear HA5 HB5
        obtain ⟨j, hj, rfl, hB, hA, hS⟩ := hrel
        obtain ⟨wq, rfl⟩ : ∃ wq : World, wq = wr := ⟨_, rfl⟩
        have HBq := Lib.hid hB
        have HAq := Lib.hid hA
        have HSq := Lib.hid hS
        clear hB hA hS
        by_cases hlt : j < n
        · have hlti : (j : Int) < (n : Int) := by omega
          obtain ⟨⟨c0, c1⟩, f0, f1⟩ := HAq.out.2 j hlt
          dsimp only at c1
          rw [if_neg (by omega)] at c1
          obtain ⟨b5, off5, e5, _, _, hc5⟩ := (HR5.out.still HSq.out) (by omega)
          subst e5
          have ck : wq.cell? ⟨b5, off5 + j, none⟩ = some (.int .i64 ((kL (bF n c k) (qF n e) n L n).getD j 0)) := hc5 j hlt
          rw [kL_get hlt] at ck
          have hd1 := HDN.out j hlt
          have hd2 := (HNX.out j hlt).2
          have hE := (HI.out.2 j hlt).2
          obtain ⟨x, hx⟩ : ∃ x, x = e j := ⟨_, rfl⟩
          obtain ⟨y, hy⟩ : ∃ y : Int, y = (kN (bF n c k) (qF n e) n L j : Int) := ⟨_, rfl⟩
          have hy0 : 0 ≤ y := by rw [hy]; exact Int.natCast_nonneg _
          rw [← hx] at c1 hd1 hE
          rw [← hy] at ck hd1
          rw [hd1] at hd2
          have v1 : IntKind.i16.wrap y = y := IntWalk.i16_in _ (by omega)
          have v2 : IntKind.i16.wrap (x - y) = x - y := IntWalk.i16_in _ (by omega)
          have HD1 := Lib.hid hd1
          clear hx hy hd1 hc5
          go_wp2_with fail
          go_still_tail 13, (by kernel_rfl)
          change wpList _ _ _ _ _ wq.drew
          go_wp2_with fail
          have A7 : As (wq.setCell ⟨g, j * 2 + 1, none⟩ (.int .i16 (x - y))) g n c (fun i => if i < j + 1 then dN n c k L d (m + 1) i else e i) := (HAq.out.set2 hlt (x - y)).congr fun i hi => by
            by_cases e1 : i = j
            · subst e1; rw [if_pos rfl, if_pos (by omega), HD1.out]
            · rw [if_neg e1]
              by_cases e2 : i < j
              · rw [if_pos e2, if_pos (by omega)]
              · rw [if_neg e2, if_neg (by omega)]
          have S7 : Still wo.heap.size w5.heap.size w5 (wq.setCell ⟨g, j * 2 + 1, none⟩ (.int .i16 (x - y))) := HSq.out.set hglt _
          exact ⟨⟨j + 1, by omega, by first | go_num | simp, (HBq.out.setCell (p := ⟨g, j * 2 + 1, none⟩) hg2 _).drew, A7, S7⟩, by simp [intOf]; omega⟩
        · obtain rfl : j = n := by omega
          have hlti : ¬ (j : Int) < (j : Int) := by omega
          have A7 : As wq g j c (dN j c k L d (m + 1)) := HAq.out.congr fun i hi => by rw [if_pos hi]
          have hm1 : ∀ i, i < m + 1 → 0 ≤ tN j c k L d i := fun i hi => by
            by_cases e1 : i = m
            · subst e1; rw [HTN.out]; exact ht
            · exact HM.out i (by omega)
          have HM1 := Lib.hid hm1
          clear hm1
          go_wp2_with fail
          exact ⟨⟨m + 1, HM1.out, by first | go_num | simp, HBq.out, A7⟩, by simp [intOf]; omega⟩
end Go.Proofs.Ytjeccdmhpbaabaa
