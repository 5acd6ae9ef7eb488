/-
  The model's LiftAll. Conditions stand at each.
-/
import Derived.Test.YtkggimalkjjnoaaRows
import Derived.Test.YtkggimalkjjnoaaLiftAllM
import Derived.Test.YtkggimalkjjnoaaLiftSlabB
import Derived.Test.YtkggimalkjjnoaaRet
import Derived.Test.YtkggimalkjjnoaaDrew
import Derived.Test.YtkggimalkjjnoaaStCode
import Derived.Deep.RegionHeld3
namespace Go.Proofs.Ytkggimalkjjnoaa
open Go Go.ChangeShapes Go.WideShapes Go.ChangeAt Go.RowKit
set_option linter.unusedVariables false
set_option linter.unusedSimpArgs false
set_option maxRecDepth 100000
set_option maxHeartbeats 8000000
namespace liftAll
theorem spec_any (X Y : Int) (g n : Nat) (c : Nat → Int) (A : Option Addr) (m cap : Nat) (l : Nat → Int) (w : World) (hX : -128 ≤ X ∧ X ≤ 127) (hY : -128 ≤ Y ∧ Y ≤ 127) (hc : ∀ j, -128 ≤ c j ∧ c j ≤ 127) (hm : n ≤ 1048576) (hn : m ≤ 1048576) (hcap : m ≤ cap) (hrow : w.rowIs g 55 (4 * n) (fun j => .int .i8 (c j))) (hr : RdK .i64 w w.heap.size A m l) :
    Calls Try.prog 38 #[.agg #[.int .i8 X, .int .i8 Y, .slice (some ⟨g, 0, none⟩) n n], .slice A m cap] w (Post X Y n c m l w) := by
  have HC := Lib.hid hc
  have HR := Lib.hid hr
  have HROW := Lib.hid hrow
  have hgl := hrow.lt
  obtain ⟨i0, hi, hz0, hz1, hz2⟩ := info_parts infoSlab
  have HI := Lib.hid hi
  clear hc hr hrow hi
  go_enter Try.func38, Try.ntmps38
  go_wp2_with fail
  have HQ := (Sq.new w X Y (.slice (some ⟨g, 0, none⟩) n n) 34).alloc (.cells #[.int .i8 0, .int .i8 0, .slice none 0 0] 34)
  have H1 : Bx ((w.alloc (.cells #[.int .i8 X, .int .i8 Y, .slice (some ⟨g, 0, none⟩) n n] 34)).alloc (.cells #[.int .i8 0, .int .i8 0, .slice none 0 0] 34)) (w.heap.size + 1) #[.int .i8 0, .int .i8 0, .slice none 0 0] 34 := by
    have := Bx.new (w.alloc (.cells #[.int .i8 X, .int .i8 Y, .slice (some ⟨g, 0, none⟩) n n] 34)) #[.int .i8 0, .int .i8 0, .slice none 0 0] 34
    rwa [World.size_alloc] at this
  have B := al (al (Below.refl w.heap.size w) (.cells #[.int .i8 X, .int .i8 Y, .slice (some ⟨g, 0, none⟩) n n] 34)) (.cells #[.int .i8 0, .int .i8 0, .slice none 0 0] 34)
  obtain ⟨W0, hW0⟩ : ∃ W0 : World, W0 = ((w.alloc (.cells #[.int .i8 X, .int .i8 Y, .slice (some ⟨g, 0, none⟩) n n] 34)).alloc (.cells #[.int .i8 0, .int .i8 0, .slice none 0 0] 34)) := ⟨_, rfl⟩
  have hs0 : W0.heap.size = w.heap.size + 2 := by rw [hW0]; simp
  rw [← hW0] at HQ H1 B ⊢
  have hs0 := Lib.hid hs0
  clear hW0
  refine (ok_any X Y w.heap.size g n c _ hX hY HC.out hm HQ (HROW.out.of_block (B.block _ hgl))).mono ?_
  rintro e W ⟨hb, ⟨hv, rfl⟩ | ⟨hv, rfl⟩⟩
  case inr =>
    have HV := Lib.hid hv
    clear hv
    replace HQ := HQ.below hb
    replace H1 := H1.below hb
    replace B := nxt B hb
    clear hb
    have hsz1 : w.heap.size + 1 < W.heap.size := H1.lt
    have hszB : w.heap.size ≤ W.heap.size := B.size
    obtain ⟨p1, q1, r1⟩ := H1.cells3
    have f10 := H1.frozen 0
    have f11 := H1.frozen 1
    have f12 := H1.frozen 2
    go_wp2_with fail
    have F1 := H1.set3 (.int .i8 0) (.int .i8 0) (.slice none 0 0)
    have B3 := below_set3 (g := w.heap.size + 1) (v0 := .int .i8 0) (v1 := .int .i8 0) (v2 := .slice none 0 0) B (by omega)
    have OE : ((((W.setCell ⟨w.heap.size + 1, 0, none⟩ (.int .i8 0)).setCell ⟨w.heap.size + 1, 1, none⟩ (.int .i8 0)).setCell ⟨w.heap.size + 1, 2, none⟩ (.slice none 0 0)).alloc (.cells #[] 55)).ownsRow w.heap.size 55 4 (.slice (some ⟨W.heap.size, 0, none⟩) 0 0) 0 [] := by
      have h := World.ownsRow_made (base := w.heap.size) (e := 55) (size := 4) (((W.setCell ⟨w.heap.size + 1, 0, none⟩ (.int .i8 0)).setCell ⟨w.heap.size + 1, 1, none⟩ (.int .i8 0)).setCell ⟨w.heap.size + 1, 2, none⟩ (.slice none 0 0)) #[] 0 (by simp; omega) (Nat.zero_le _) rfl
      rw [show (((W.setCell ⟨w.heap.size + 1, 0, none⟩ (.int .i8 0)).setCell ⟨w.heap.size + 1, 1, none⟩ (.int .i8 0)).setCell ⟨w.heap.size + 1, 2, none⟩ (.slice none 0 0)).heap.size = W.heap.size by simp] at h
      exact h
    replace B3 := al B3 (.cells #[] 55)
    replace F1 := F1.alloc (.cells #[] 55)
    obtain ⟨x1, y1, z1⟩ := F1.cells3
    refine bodyPost_ret (v := .tuple #[.agg #[.int .i8 0, .int .i8 0, .slice none 0 0], .slice (some ⟨W.heap.size, 0, none⟩) 0 0, .int .i64 1]) ?_ ?_ ?_
    · simp [results, Try.results38, go_sem, x1, y1, z1]
    · rfl
    exact .inl ⟨HV.out, B3, _, _, rfl, World.ownsRow_nil _ _ _ _, OE, .inl rfl⟩
  have HV := Lib.hid hv
  have hn60 : n ≤ 60 := hv.2.2.2.2.1
  clear hv
  replace HQ := HQ.below hb
  replace H1 := H1.below hb
  replace B := nxt B hb
  clear hb
  go_wp2_with fail
  go_loopw [5, 6, 7] (fun t5 t6 t7 wr => ∃ k : Nat, k ≤ m ∧ t7 = .int .i64 k ∧ (∀ i, i < k → 0 ≤ l i ∧ l i < n) ∧ Below w.heap.size w wr ∧ Sq wr w.heap.size X Y (.slice (some ⟨g, 0, none⟩) n n) ∧ Bx wr (w.heap.size + 1) #[.int .i8 0, .int .i8 0, .slice none 0 0] 34) (fun t5 t6 t7 wr => m - (intOf t7).toNat)
  case atStart => exact ⟨0, by omega, rfl, fun i hi => by omega, B, HQ, H1⟩
  case round =>
    clear B HQ H1
    obtain ⟨k, hk, rfl, hall, B, HQ, H1⟩ := hrel
    have HALL := Lib.hid hall
    clear hall
    by_cases hlt : k < m
    · have hki : (k : Int) < (m : Int) := by omega
      have hk0 : (0 : Int) ≤ (k : Int) := by omega
      obtain ⟨b, off, rfl, hbl, c0⟩ := rdInt64 (HR.out.below B) hlt
      by_cases h : 0 ≤ l k ∧ l k < n
      · have H := Lib.hid h
        have hd := decide_eq_true h
        obtain ⟨x, hx⟩ : ∃ x, x = l k := ⟨_, rfl⟩
        rw [← hx] at c0 hd
        clear hx h
        go_wp2_with fail
        refine (liftSlab.index_any X Y x w.heap.size g n _ hm HQ).mono ?_
        rintro e w1 ⟨rfl, hb⟩
        replace HQ := HQ.below hb
        replace H1 := H1.below hb
        replace B := nxt B hb
        clear hb
        rw [hd]
        clear c0 hd
        go_wp2_with fail
        exact ⟨⟨k + 1, by omega, by first | go_num | simp, fun i hi => (by
          by_cases hik : i < k
          · exact HALL.out i hik
          · obtain rfl : i = k := by omega
            exact H.out), B, HQ, H1⟩, by simp [intOf]; omega⟩
      · have HN : Hid (¬ InAll n m l) := Lib.hid (fun ha => h (ha k hlt))
        have hd := decide_eq_false h
        obtain ⟨x, hx⟩ : ∃ x, x = l k := ⟨_, rfl⟩
        rw [← hx] at c0 hd
        clear hx h
        go_wp2_with fail
        refine (liftSlab.index_any X Y x w.heap.size g n _ hm HQ).mono ?_
        rintro e w1 ⟨rfl, hb⟩
        replace HQ := HQ.below hb
        replace H1 := H1.below hb
        replace B := nxt B hb
        clear hb
        rw [hd]
        clear c0 hd
        have hsz1 : w.heap.size + 1 < w1.heap.size := H1.lt
        have hszB : w.heap.size ≤ w1.heap.size := B.size
        obtain ⟨p1, q1, r1⟩ := H1.cells3
        have f10 := H1.frozen 0
        have f11 := H1.frozen 1
        have f12 := H1.frozen 2
        go_wp2_with fail
        have F1 := H1.set3 (.int .i8 0) (.int .i8 0) (.slice none 0 0)
        have B3 := below_set3 (g := w.heap.size + 1) (v0 := .int .i8 0) (v1 := .int .i8 0) (v2 := .slice none 0 0) B (by omega)
        have OE : ((((w1.setCell ⟨w.heap.size + 1, 0, none⟩ (.int .i8 0)).setCell ⟨w.heap.size + 1, 1, none⟩ (.int .i8 0)).setCell ⟨w.heap.size + 1, 2, none⟩ (.slice none 0 0)).alloc (.cells #[] 55)).ownsRow w.heap.size 55 4 (.slice (some ⟨w1.heap.size, 0, none⟩) 0 0) 0 [] := by
          have h := World.ownsRow_made (base := w.heap.size) (e := 55) (size := 4) (((w1.setCell ⟨w.heap.size + 1, 0, none⟩ (.int .i8 0)).setCell ⟨w.heap.size + 1, 1, none⟩ (.int .i8 0)).setCell ⟨w.heap.size + 1, 2, none⟩ (.slice none 0 0)) #[] 0 (by simp; omega) (Nat.zero_le _) rfl
          rw [show (((w1.setCell ⟨w.heap.size + 1, 0, none⟩ (.int .i8 0)).setCell ⟨w.heap.size + 1, 1, none⟩ (.int .i8 0)).setCell ⟨w.heap.size + 1, 2, none⟩ (.slice none 0 0)).heap.size = w1.heap.size by simp] at h
          exact h
        replace B3 := al B3 (.cells #[] 55)
        replace F1 := F1.alloc (.cells #[] 55)
        obtain ⟨x1, y1, z1⟩ := F1.cells3
        refine bodyPost_ret (v := .tuple #[.agg #[.int .i8 0, .int .i8 0, .slice none 0 0], .slice (some ⟨w1.heap.size, 0, none⟩) 0 0, .int .i64 2]) ?_ ?_ ?_
        · simp [results, Try.results38, go_sem, x1, y1, z1]
        · rfl
        exact .inr (.inl ⟨HV.out, HN.out, B3, _, _, rfl, World.ownsRow_nil _ _ _ _, OE, .inl rfl⟩)
    obtain rfl : m = k := by omega
    have HIN : Hid (InAll n m l) := HALL
    have hki : ¬ ((m : Int) < (m : Int)) := by omega
    clear HALL hlt hk
    have hsz1 : w.heap.size + 1 < wr.heap.size := H1.lt
    have O : OwnS (wr.alloc (.cells #[] 55)) (w.heap.size + 2) (.slice (some ⟨wr.heap.size, 0, none⟩) 0 0) 0 (upV c l 0) := World.ownsRow_made _ #[] 0 (by omega) (Nat.zero_le _) rfl
    replace H1 := H1.alloc (.cells #[] 55)
    replace HQ := HQ.alloc (.cells #[] 55)
    replace B := al B (.cells #[] 55)
    go_wp2_with fail
    go_loopw [5, 6, 8, 9] (fun t5 t6 t8 t9 wr => ∃ k : Nat, k ≤ m ∧ t9 = .int .i64 k ∧ OwnS wr (w.heap.size + 2) t8 k (upV c l k) ∧ Apart1 k l ∧ Below w.heap.size w wr ∧ Sq wr w.heap.size X Y (.slice (some ⟨g, 0, none⟩) n n) ∧ Bx wr (w.heap.size + 1) #[.int .i8 0, .int .i8 0, .slice none 0 0] 34) (fun t5 t6 t8 t9 wr => m - (intOf t9).toNat)
    case atStart => exact ⟨0, by omega, rfl, O, fun i hi => by omega, B, HQ, H1⟩
    case round =>
      clear B HQ H1 O
      obtain ⟨k, hk, rfl, O, hap, B, HQ, H1⟩ := hrel
      obtain ⟨v1, rfl⟩ : ∃ v1 : Value, v1 = u8 := ⟨_, rfl⟩
      have HAP := Lib.hid hap
      have HO := Lib.hid O
      clear hap O
      by_cases hlt : k < m
      · have hki : (k : Int) < (m : Int) := by omega
        have hkc : (k : Int) ≤ (cap : Int) := by omega
        have hk0 : (0 : Int) ≤ (k : Int) := by omega
        have hrd := (HR.out.below B).mono B.size
        have HPre := Lib.hid (hrd.pre hk)
        obtain ⟨b, off, rfl, hbl, c0⟩ := rdInt64 hrd hlt
        obtain ⟨hx0, hxn⟩ := HIN.out k hlt
        obtain ⟨x, hx⟩ := Int.eq_ofNat_of_zero_le hx0
        have hxn' : (x : Int) < (n : Int) := by rw [← hx]; exact hxn
        have HX := Lib.hid hx
        rw [hx] at c0
        clear hrd hx hx0 hxn
        by_cases h : InL k l (x : Int)
        · have HN : Hid (¬ Apart1 m l) := Lib.hid (apart_not hlt (by rw [HX.out]; exact h))
          have HH := Lib.hid h
          clear h
          go_wp2
          go_quiet ((go_at_call 109; exact Calls.quiet_of_same (hasN_yes _ _ _ l _ _ (by omega) HPre.out HH.out)))
          have hb : Below wr.heap.size wr (wr.drewN nq) := below_drewN' (Below.refl _ _) nq
          replace HQ := HQ.below hb
          replace H1 := H1.below hb
          replace B := nxt B hb
          clear hb
          obtain ⟨W5, hW5⟩ : ∃ W5 : World, W5 = wr.drewN nq := ⟨_, rfl⟩
          rw [← hW5] at B HQ H1 ⊢
          clear hW5 c0 HPre HO
          have hsz1 : w.heap.size + 1 < W5.heap.size := H1.lt
          have hszB : w.heap.size ≤ W5.heap.size := B.size
          obtain ⟨p1, q1, r1⟩ := H1.cells3
          have f10 := H1.frozen 0
          have f11 := H1.frozen 1
          have f12 := H1.frozen 2
          go_wp2_with fail
          have F1 := H1.set3 (.int .i8 0) (.int .i8 0) (.slice none 0 0)
          have B3 := below_set3 (g := w.heap.size + 1) (v0 := .int .i8 0) (v1 := .int .i8 0) (v2 := .slice none 0 0) B (by omega)
          have OE : ((((W5.setCell ⟨w.heap.size + 1, 0, none⟩ (.int .i8 0)).setCell ⟨w.heap.size + 1, 1, none⟩ (.int .i8 0)).setCell ⟨w.heap.size + 1, 2, none⟩ (.slice none 0 0)).alloc (.cells #[] 55)).ownsRow w.heap.size 55 4 (.slice (some ⟨W5.heap.size, 0, none⟩) 0 0) 0 [] := by
            have h := World.ownsRow_made (base := w.heap.size) (e := 55) (size := 4) (((W5.setCell ⟨w.heap.size + 1, 0, none⟩ (.int .i8 0)).setCell ⟨w.heap.size + 1, 1, none⟩ (.int .i8 0)).setCell ⟨w.heap.size + 1, 2, none⟩ (.slice none 0 0)) #[] 0 (by simp; omega) (Nat.zero_le _) rfl
            rw [show (((W5.setCell ⟨w.heap.size + 1, 0, none⟩ (.int .i8 0)).setCell ⟨w.heap.size + 1, 1, none⟩ (.int .i8 0)).setCell ⟨w.heap.size + 1, 2, none⟩ (.slice none 0 0)).heap.size = W5.heap.size by simp] at h
            exact h
          replace B3 := al B3 (.cells #[] 55)
          replace F1 := F1.alloc (.cells #[] 55)
          obtain ⟨x1, y1, z1⟩ := F1.cells3
          refine bodyPost_ret (v := .tuple #[.agg #[.int .i8 0, .int .i8 0, .slice none 0 0], .slice (some ⟨W5.heap.size, 0, none⟩) 0 0, .int .i64 4]) ?_ ?_ ?_
          · simp [results, Try.results38, go_sem, x1, y1, z1]
          · rfl
          exact .inr (.inr (.inl ⟨HV.out, HIN.out, HN.out, B3, _, _, rfl, World.ownsRow_nil _ _ _ _, OE, .inl rfl⟩))
        · have HAN := Lib.hid (apart_next HAP.out (by rw [HX.out]; exact h))
          have HH := Lib.hid h
          clear h
          go_wp2
          go_quiet ((go_at_call 109; exact Calls.quiet_of_same (hasN_no _ _ _ l _ _ (by omega) HPre.out HH.out)))
          have hb : Below wr.heap.size wr (wr.drewN nq) := below_drewN' (Below.refl _ _) nq
          replace HO := Lib.hid (OwnS.below HO.out hb)
          have s9 : (wr.drewN nq).drew.cell? ⟨b, off + k, none⟩ = some (.int .i64 (x : Int)) := c0
          replace HQ := HQ.below hb
          replace H1 := H1.below hb
          replace B := nxt B hb
          clear hb
          obtain ⟨W5, hW5⟩ : ∃ W5 : World, W5 = wr.drewN nq := ⟨_, rfl⟩
          rw [← hW5] at B HQ H1 HO s9 ⊢
          clear hW5 c0 HPre
          have R := HROW.out.of_block (B.block _ hgl)
          obtain ⟨lq, pq, qq, rq⟩ := id HQ
          have c0 := R.cell (i := 4 * x) (by omega)
          have c1 := R.cell (i := 4 * x + 1) (by omega)
          have c2 := R.cell (i := 4 * x + 2) (by omega)
          have c3 := R.cell (i := 4 * x + 3) (by omega)
          rw [show 4 * x = x * 4 by omega] at c0
          rw [show 4 * x + 1 = x * 4 + 1 by omega] at c1
          rw [show 4 * x + 2 = x * 4 + 2 by omega] at c2
          rw [show 4 * x + 3 = x * 4 + 3 by omega] at c3
          go_wp2
          have hx0 : (0 : Int) ≤ (x : Int) := by omega
          have hss : w.heap.size + 1 < W5.heap.size := H1.lt
          have s0 : W5.drew.cell? ⟨g, x * 4, none⟩ = some (.int .i8 (c (x * 4))) := c0
          have s1 : W5.drew.cell? ⟨g, x * 4 + 1, none⟩ = some (.int .i8 (c (x * 4 + 1))) := c1
          have s2 : W5.drew.cell? ⟨g, x * 4 + 2, none⟩ = some (.int .i8 (c (x * 4 + 2))) := c2
          have s3 : W5.drew.cell? ⟨g, x * 4 + 3, none⟩ = some (.int .i8 (c (x * 4 + 3))) := c3
          have sq : W5.drew.cell? ⟨w.heap.size, 2, none⟩ = some (.slice (some ⟨g, 0, none⟩) n n) := rq
          clear c0 c1 c2 c3 lq pq qq rq
          go_region_law
            ((refine wp_append_own _ _ _ 32 rfl (w.heap.size + 2) 55 i0 (.agg #[.int .i8 0, .int .i8 0, .int .i8 0, .int .i8 0]) 4 4 Try.underlying32 HI.out hz0 hz1 hz2 rfl (by decide) v1 k (upV c l k) rfl (World.ownsRow.alloc (w := W5) HO.out _) ⟨W5.heap.size, 0, none⟩ 1 1 [.int .i8 (c (x * 4)), .int .i8 (c (x * 4 + 1)), .int .i8 (c (x * 4 + 2)), .int .i8 (c (x * 4 + 3))] rfl rfl (new_cells W5 #[.int .i8 (c (x * 4)), .int .i8 (c (x * 4 + 1)), .int .i8 (c (x * 4 + 2)), .int .i8 (c (x * 4 + 3))] 55) (by intro u hu; simp at hu; rcases hu with rfl | rfl | rfl | rfl <;> rfl) (by unfold maxLen; omega) (by omega) (by simp; omega) ?_
              intro v' w1 own' hgr _))
          all_goals
            go_wp2
            refine ⟨⟨k + 1, by omega, by first | go_num | simp, ?_, HAN.out, (al B.drew _).grown hgr (al B.drew _).size (fun k e => by have := (World.ownsRow.lt HO.out k e).1; omega), (HQ.alloc _).of_block hgr.size (hgr.block _ (HQ.alloc _).1 (fun e => by have := (World.ownsRow.lt HO.out _ e.symm).1; omega)), (H1.alloc _).of_block (hgr.block _ (H1.alloc _).lt (fun e => by have := (World.ownsRow.lt HO.out _ e.symm).1; omega))⟩, by simp [intOf]; omega⟩
            show World.ownsRow _ _ _ _ _ _ (upV c l k ++ fourV c (l k).toNat)
            rw [HX.out, Int.toNat_natCast]
            unfold fourV
            rw [show 4 * x = x * 4 by omega]
            exact own'
      obtain rfl : m = k := by omega
      have HA := HAP
      have hki : ¬ ((m : Int) < (m : Int)) := by omega
      clear HAP hlt hk
      have hlo := World.ownsRow.lt HO.out
      obtain ⟨lq, pq, qq, rq⟩ := id HQ
      have hsz1 : w.heap.size + 1 < wr.heap.size := H1.lt
      have T0 := Bx.new wr #[.int .i8 X, .int .i8 Y, .slice none 0 0] 34
      have HQ' := HQ.alloc (.cells #[.int .i8 X, .int .i8 Y, .slice none 0 0] 34)
      have H1' := H1.alloc (.cells #[.int .i8 X, .int .i8 Y, .slice none 0 0] 34)
      have B' := al B (.cells #[.int .i8 X, .int .i8 Y, .slice none 0 0] 34)
      have O1 : OwnS (wr.alloc (.cells #[.int .i8 X, .int .i8 Y, .slice none 0 0] 34)) (w.heap.size + 2) v1 m (upV c l m) := World.ownsRow.alloc HO.out _
      obtain ⟨s, hs⟩ : ∃ s, s = wr.heap.size := ⟨_, rfl⟩
      have HLO : Hid (∀ k, v1.ownBlock = some k → w.heap.size + 2 ≤ k ∧ k < s) := Lib.hid (by rw [hs]; exact hlo)
      have hss : w.heap.size + 2 ≤ s := by omega
      have hZ : s + 1 ≤ (wr.alloc (.cells #[.int .i8 X, .int .i8 Y, .slice none 0 0] 34)).heap.size := by rw [hs]; simp
      clear hlo HO
      go_wp2_with fail
      rw [← hs] at T0 ⊢
      clear lq pq qq rq hs
      go_loopw [11] (fun t11 wr => ∃ k : Nat, k ≤ n ∧ t11 = .int .i64 k ∧ s + 1 ≤ wr.heap.size ∧ OwnS wr (w.heap.size + 2) v1 m (upV c l m) ∧ (∃ v, Bx wr s #[.int .i8 X, .int .i8 Y, v] 34 ∧ OwnS wr (s + 1) v (leftK m l k) (leftV c m l k)) ∧ Below w.heap.size w wr ∧ Sq wr w.heap.size X Y (.slice (some ⟨g, 0, none⟩) n n) ∧ Bx wr (w.heap.size + 1) #[.int .i8 0, .int .i8 0, .slice none 0 0] 34) (fun t11 wr => n - (intOf t11).toNat)
      case atStart => exact ⟨0, by omega, rfl, hZ, O1, ⟨_, T0, World.ownsRow_nil _ _ _ _⟩, B', HQ', H1'⟩
      case round =>
        clear B B' HQ HQ' H1 H1' O1 T0 hZ
        obtain ⟨k, hk, rfl, hZ, O1, ⟨v, hB, O⟩, B, HQ, H1⟩ := hrel
        have hsz2 : w.heap.size + 1 < wr.heap.size := H1.lt
        obtain ⟨lq, pq, qq, rq⟩ := id HQ
        have HO := Lib.hid O
        have HO1 := Lib.hid O1
        have HB := Lib.hid hB
        clear O O1 hB
        by_cases hlt : k < n
        · have hki : (k : Int) < (n : Int) := by omega
          have hk0 : (0 : Int) ≤ (k : Int) := by omega
          have hrd := (HR.out.below B).mono B.size
          have HRD := Lib.hid hrd
          clear hrd
          by_cases h : InL m l (k : Int)
          · have HE := Lib.hid (left_in (c := c) h)
            go_wp2_with fail
            refine (hasN_yes A m cap l (k : Int) _ hn HRD.out h).mono ?_
            rintro e w3 ⟨rfl, hw3⟩
            replace hw3 := hw3.symm
            subst hw3
            clear h
            go_wp2_with fail
            refine ⟨⟨k + 1, by omega, by first | go_num | simp, hZ, HO1.out, ⟨v, HB.out, ?_⟩, B, HQ, H1⟩, by simp [intOf]; omega⟩
            rw [HE.out.1, HE.out.2]
            exact HO.out
          · have HE := Lib.hid (left_out (c := c) h)
            have hkn := leftK_le m l k
            go_wp2_with fail
            refine (hasN_no A m cap l (k : Int) _ hn HRD.out h).mono ?_
            rintro e w3 ⟨rfl, hw3⟩
            replace hw3 := hw3.symm
            subst hw3
            have R := HROW.out.of_block (B.block _ hgl)
            have cB := HB.out.cell 2
            have fB := HB.out.frozen 2
            simp at cB
            have c0 := R.cell (i := 4 * k) (by omega)
            have c1 := R.cell (i := 4 * k + 1) (by omega)
            have c2 := R.cell (i := 4 * k + 2) (by omega)
            have c3 := R.cell (i := 4 * k + 3) (by omega)
            rw [show 4 * k = k * 4 by omega] at c0
            rw [show 4 * k + 1 = k * 4 + 1 by omega] at c1
            rw [show 4 * k + 2 = k * 4 + 2 by omega] at c2
            rw [show 4 * k + 3 = k * 4 + 3 by omega] at c3
            clear h
            go_wp2
            have hlo : ∀ k, v.ownBlock = some k → s + 1 ≤ k ∧ k < wr.heap.size := fun k e => World.ownsRow.lt HO.out k e
            have HLV := Lib.hid hlo
            have s0 : wr.drew.cell? ⟨g, k * 4, none⟩ = some (.int .i8 (c (k * 4))) := c0
            have s1 : wr.drew.cell? ⟨g, k * 4 + 1, none⟩ = some (.int .i8 (c (k * 4 + 1))) := c1
            have s2 : wr.drew.cell? ⟨g, k * 4 + 2, none⟩ = some (.int .i8 (c (k * 4 + 2))) := c2
            have s3 : wr.drew.cell? ⟨g, k * 4 + 3, none⟩ = some (.int .i8 (c (k * 4 + 3))) := c3
            have sq : wr.drew.cell? ⟨w.heap.size, 2, none⟩ = some (.slice (some ⟨g, 0, none⟩) n n) := rq
            have sB : wr.drew.cell? ⟨s, 2, none⟩ = some v := cB
            have sB' : (wr.alloc (.cells #[.int .i8 (c (k * 4)), .int .i8 (c (k * 4 + 1)), .int .i8 (c (k * 4 + 2)), .int .i8 (c (k * 4 + 3))] 55)).drew.cell? ⟨s, 2, none⟩ = some v := (World.cell?_of_block (w := wr) (Below.heap_alloc wr _ _ (by show s < _; omega))).trans cB
            clear hlo c0 c1 c2 c3 lq pq qq rq cB
            go_region_law
              ((refine wp_append_own _ _ _ 32 rfl (s + 1) 55 i0 (.agg #[.int .i8 0, .int .i8 0, .int .i8 0, .int .i8 0]) 4 4 Try.underlying32 HI.out hz0 hz1 hz2 rfl (by decide) v (leftK m l k) (leftV c m l k) rfl (World.ownsRow.alloc (w := wr) HO.out _) ⟨wr.heap.size, 0, none⟩ 1 1 [.int .i8 (c (k * 4)), .int .i8 (c (k * 4 + 1)), .int .i8 (c (k * 4 + 2)), .int .i8 (c (k * 4 + 3))] rfl rfl (new_cells wr #[.int .i8 (c (k * 4)), .int .i8 (c (k * 4 + 1)), .int .i8 (c (k * 4 + 2)), .int .i8 (c (k * 4 + 3))] 55) (by intro u hu; simp at hu; rcases hu with rfl | rfl | rfl | rfl <;> rfl) (by unfold maxLen; omega) (by omega) (by simp; omega) ?_
                intro v' w1 own' hgr _
                obtain ⟨A', cap', rfl⟩ := row_shape own'
                have hv3 : Bx w1 s #[.int .i8 X, .int .i8 Y, v] 34 := (hgr.block _ (by simp; omega) (fun e => by have := (HLV.out _ e.symm).1; omega)).trans ((Below.heap_alloc wr _ _ (by omega)).trans HB.out)
                have cB7 := hv3.cell 2
                have fB7 := hv3.frozen 2
                simp at cB7))
            all_goals
              go_wp2
              refine ⟨⟨k + 1, by omega, by first | go_num | simp, ?_, OwnS.other (World.ownsRow.kept (World.ownsRow.alloc (w := wr.drew) HO1.out _) hgr (apartN HLO.out HLV.out)) (fun e => by have := (HLO.out _ e).2; omega), ⟨_, hv3.set 2 _, ?_⟩, ((al B.drew _).grown hgr (al B.drew _).size (fun k e => by have := (HLV.out k e).1; omega)).setCell (p := ⟨s, 2, none⟩) (by show w.heap.size ≤ s; omega) _, ((HQ.alloc _).of_block hgr.size (hgr.block _ (HQ.alloc _).1 (fun e => by have := (HLV.out _ e.symm).1; omega))).of_block (by simp) (Below.heap_setCell w1 _ _ _ (by show w.heap.size ≠ s; omega)), ((H1.alloc _).of_block (hgr.block _ (H1.alloc _).lt (fun e => by have := (HLV.out _ e.symm).1; omega))).other _ (by omega)⟩, by simp [intOf]; omega⟩
              · have := hgr.size; simp at this ⊢; omega
              · rw [HE.out.1, HE.out.2]
                unfold fourV
                rw [show 4 * k = k * 4 by omega]
                exact OwnS.set own' (by omega)
        · obtain rfl : n = k := by omega
          have hki : ¬ ((n : Int) < (n : Int)) := by omega
          obtain ⟨A', cap', hvv⟩ := row_shape HO.out
          subst hvv
          have hB := HB.out
          obtain ⟨x0, y0, z0⟩ := hB.cells3
          obtain ⟨p1, q1, r1⟩ := H1.cells3
          have f10 := H1.frozen 0
          have f11 := H1.frozen 1
          have f12 := H1.frozen 2
          have hlo : ∀ k, (Value.slice A' (leftK m l n) cap').ownBlock = some k → s + 1 ≤ k ∧ k < wr.heap.size := fun k e => World.ownsRow.lt HO.out k e
          have hap : (Value.slice A' (leftK m l n) cap').ownBlock = none ∨ (Value.slice A' (leftK m l n) cap').ownBlock ≠ v1.ownBlock := apartV HLO.out hlo
          have HAV := Lib.hid hap
          clear hlo hap
          go_wp2_with fail
          have F1 := H1.set3 (.int .i8 X) (.int .i8 Y) (.slice A' (leftK m l n) cap')
          have B3 := below_set3 (g := w.heap.size + 1) (v0 := .int .i8 X) (v1 := .int .i8 Y) (v2 := (.slice A' (leftK m l n) cap')) B (by omega)
          obtain ⟨x1, y1, z1⟩ := F1.cells3
          refine bodyPost_ret (v := .tuple #[.agg #[.int .i8 X, .int .i8 Y, .slice A' (leftK m l n) cap'], v1, .int .i64 0]) ?_ ?_ ?_
          · simp [results, Try.results38, go_sem, x1, y1, z1]
          · rfl
          exact .inr (.inr (.inr ⟨HV.out, HIN.out, HA.out, B3, _, v1, rfl, World.ownsRow.mono (OwnS.set (OwnS.set (OwnS.set HO.out (by omega)) (by omega)) (by omega)) (by omega), World.ownsRow.mono (OwnS.set (OwnS.set (OwnS.set HO1.out (by omega)) (by omega)) (by omega)) (by omega), HAV.out⟩))
end liftAll
end Go.Proofs.Ytkggimalkjjnoaa
