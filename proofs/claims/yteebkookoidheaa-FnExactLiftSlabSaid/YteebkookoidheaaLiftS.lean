/-
  The contract of spec.l01Lift: a square's slabs but one. Conditions stand at each.
-/
import Derived.Test.YteebkookoidheaaRows
import Derived.Test.YteebkookoidheaaCells
import Derived.Test.YteebkookoidheaaRes
import Derived.Test.YteebkookoidheaaWhole
import Derived.StillTailTactics
import Derived.Deep.RegionHeld3
import Derived.Deep.RegionHeldLaw
import Derived.Deep.RegionLaw
import Derived.BigRegion
namespace Go.Proofs.Yteebkookoidheaa
open Go Go.ChangeShapes Go.WideShapes Go.ChangeAt Go.RowKit
set_option linter.unusedVariables false
set_option linter.unusedSimpArgs false
set_option maxRecDepth 100000
set_option maxHeartbeats 2000000

def fourV (c : Nat → Int) (i : Nat) : List Value := [.int .i8 (c (4 * i)), .int .i8 (c (4 * i + 1)), .int .i8 (c (4 * i + 2)), .int .i8 (c (4 * i + 3))]
/-- the cells of the first slabs but one. -/
def liftV (c : Nat → Int) (k : Nat) : Nat → List Value
  | 0 => []
  | i + 1 => if i = k then liftV c k i else liftV c k i ++ fourV c i
def liftN (k i : Nat) : Nat := if i ≤ k then i else i - 1
theorem liftV_length (c : Nat → Int) (k : Nat) : ∀ i, (liftV c k i).length = liftN k i * 4
  | 0 => by simp [liftV, liftN]
  | i + 1 => by
    have ih := liftV_length c k i
    unfold liftV
    unfold liftN at ih ⊢
    by_cases h : i = k
    · rw [if_pos h, ih]
      split <;> split <;> omega
    · rw [if_neg h, List.length_append, ih]
      simp only [fourV, List.length_cons, List.length_nil]
      split <;> split <;> omega
def liftF (c : Nat → Int) (k j : Nat) : Int := if j < 4 * k then c j else c (j + 4)
theorem liftV_get (c : Nat → Int) (k : Nat) : ∀ i j, j < liftN k i * 4 → (liftV c k i)[j]? = some (.int .i8 (liftF c k j))
  | 0, j, h => by simp [liftN] at h
  | i + 1, j, h => by
    have ih := liftV_get c k i
    have hl := liftV_length c k i
    unfold liftV
    by_cases hk : i = k
    · rw [if_pos hk]
      exact ih j (by unfold liftN at h ⊢; split at h <;> split <;> omega)
    · rw [if_neg hk]
      by_cases hj : j < liftN k i * 4
      · rw [List.getElem?_append_left (by omega)]
        exact ih j hj
      · rw [List.getElem?_append_right (by omega), hl]
        have hN : liftN k (i + 1) = liftN k i + 1 := by unfold liftN; split <;> split <;> omega
        rw [hN] at h
        have hd4 : j - liftN k i * 4 < 4 := by omega
        have e : liftF c k j = c (4 * i + (j - liftN k i * 4)) := by
          unfold liftF
          by_cases h1 : i ≤ k
          · have e1 : liftN k i = i := if_pos h1
            rw [e1] at hj h ⊢
            rw [if_pos (by omega)]
            congr 1; omega
          · have e1 : liftN k i = i - 1 := if_neg h1
            rw [e1] at hj h ⊢
            rw [if_neg (by omega)]
            congr 1; omega
        rw [e]
        rcases (show j - liftN k i * 4 = 0 ∨ j - liftN k i * 4 = 1 ∨ j - liftN k i * 4 = 2 ∨ j - liftN k i * 4 = 3 by omega) with e | e | e | e <;> rw [e] <;> rfl

def OwnS (w : World) (base : Nat) (v : Value) (m : Nat) (L : List Value) : Prop := w.ownsRow base 31 4 v m L

theorem OwnS.set {w : World} {base m b o : Nat} {v u : Value} {L : List Value} (h : OwnS w base v m L) (hb : b < base) : OwnS (w.setCell ⟨b, o, none⟩ u) base v m L := by
  refine ⟨h.1, h.2.imp id ?_⟩
  rintro ⟨g, cap, cur, h1, h2, h3, h4⟩
  exact ⟨g, cap, cur, h1, h2, (Below.heap_setCell w _ _ _ (by show g ≠ b; omega)).trans h3, h4⟩
/-- what the loads of a round read. -/
def KS (bq g i n : Nat) (c : Nat → Int) (w : World) : Prop :=
  bq < w.heap.size ∧ g < w.heap.size ∧ w.cell? ⟨bq, 2, none⟩ = some (.slice (some ⟨g, 0, none⟩) n n) ∧ w.cell? ⟨g, i * 4, none⟩ = some (.int .i8 (c (i * 4))) ∧ w.cell? ⟨g, i * 4 + 1, none⟩ = some (.int .i8 (c (i * 4 + 1))) ∧ w.cell? ⟨g, i * 4 + 2, none⟩ = some (.int .i8 (c (i * 4 + 2))) ∧ w.cell? ⟨g, i * 4 + 3, none⟩ = some (.int .i8 (c (i * 4 + 3)))
theorem KS.of_blocks {bq g i n : Nat} {c : Nat → Int} {w w' : World} (h : KS bq g i n c w) (hs : w.heap.size ≤ w'.heap.size) (e1 : w'.heap[bq]? = w.heap[bq]?) (e2 : w'.heap[g]? = w.heap[g]?) : KS bq g i n c w' := by
  obtain ⟨h1, h2, h3, h4, h5, h6, h7⟩ := h
  exact ⟨Nat.lt_of_lt_of_le h1 hs, Nat.lt_of_lt_of_le h2 hs, (World.cell?_of_block (w := w) e1).trans h3, (World.cell?_of_block (w := w) e2).trans h4, (World.cell?_of_block (w := w) e2).trans h5, (World.cell?_of_block (w := w) e2).trans h6, (World.cell?_of_block (w := w) e2).trans h7⟩
theorem KS.alloc {bq g i n : Nat} {c : Nat → Int} {w : World} (h : KS bq g i n c w) (o : Obj) : KS bq g i n c (w.alloc o) := h.of_blocks (by simp) (Below.heap_alloc w o bq h.1) (Below.heap_alloc w o g h.2.1)
theorem KS.grown {bq g i n : Nat} {c : Nat → Int} {w w' : World} {r : Option Nat} (h : KS bq g i n c w) (hg : w.grownBy w' r) (h1 : some bq ≠ r) (h2 : some g ≠ r) : KS bq g i n c w' := h.of_blocks hg.size (hg.block _ h.1 h1) (hg.block _ h.2.1 h2)
theorem KS.set {bq g i n b o : Nat} {c : Nat → Int} {w : World} {v : Value} (h : KS bq g i n c w) (h1 : bq ≠ b) (h2 : g ≠ b) : KS bq g i n c (w.setCell ⟨b, o, none⟩ v) := h.of_blocks (by simp) (Below.heap_setCell w _ _ _ h1) (Below.heap_setCell w _ _ _ h2)

set_option maxHeartbeats 8000000 in
theorem lift_any (X Y : Int) (bq g n k : Nat) (c : Nat → Int) (w : World) (hm : n ≤ 1000) (hk : k < n) (hq : Sq w bq X Y (.slice (some ⟨g, 0, none⟩) n n)) (hrow : w.rowIs g 31 (4 * n) (fun j => .int .i8 (c j))) :
    Calls Try.prog 64 #[.pointer (some ⟨bq, 0, none⟩), .int .i64 (k : Int)] w fun e w' => Below w.heap.size w w' ∧ ∃ v, e = .returned (.agg #[.int .i8 X, .int .i8 Y, v]) ∧ OwnS w' w.heap.size v (liftN k n) (liftV c k n) := by
  obtain ⟨i0, hi, hz0, hz1, hz2⟩ := info_parts infoSlab
  have hgl := hrow.lt
  go_enter Try.func64, Try.ntmps64
  obtain ⟨lq, pq, qq, rq⟩ := id hq
  go_wp2
  have r0 : w.drew.cell? ⟨bq, 0, none⟩ = some (.int .i8 X) := pq
  have r1 : w.drew.cell? ⟨bq, 1, none⟩ = some (.int .i8 Y) := qq
  go_region_held3 (fun w' => w'.cell? ⟨bq, 0, none⟩ = some (.int .i8 X) ∧ w'.cell? ⟨bq, 1, none⟩ = some (.int .i8 Y)) (first | exact ⟨r0, r1⟩ | go_keep) (first | fail)
  have hAs : ((w.alloc (.cells #[.int .i8 0, .int .i8 0, .slice none 0 0] 29)).alloc (.cells #[.int .i8 X, .int .i8 Y, .slice none 0 0] 29)).drew.heap.size = w.heap.size + 2 := by simp
  have B0 := (al (al (Below.refl w.heap.size w) (.cells #[.int .i8 0, .int .i8 0, .slice none 0 0] 29)) (.cells #[.int .i8 X, .int .i8 Y, .slice none 0 0] 29)).drew
  have HB0 : ((w.alloc (.cells #[.int .i8 0, .int .i8 0, .slice none 0 0] 29)).alloc (.cells #[.int .i8 X, .int .i8 Y, .slice none 0 0] 29)).drew.heap[w.heap.size + 1]? = some (.cells #[.int .i8 X, .int .i8 Y, .slice none 0 0] 29 (0, 0)) := by
    have := heap_alloc_new (w.alloc (.cells #[.int .i8 0, .int .i8 0, .slice none 0 0] 29)) (.cells #[.int .i8 X, .int .i8 Y, .slice none 0 0] 29)
    rw [World.size_alloc] at this
    exact this
  have HD0 : ((w.alloc (.cells #[.int .i8 0, .int .i8 0, .slice none 0 0] 29)).alloc (.cells #[.int .i8 X, .int .i8 Y, .slice none 0 0] 29)).drew.heap[w.heap.size]? = some (.cells #[.int .i8 0, .int .i8 0, .slice none 0 0] 29 (0, 0)) :=
    (Below.heap_alloc (w.alloc (.cells #[.int .i8 0, .int .i8 0, .slice none 0 0] 29)) (.cells #[.int .i8 X, .int .i8 Y, .slice none 0 0] 29) w.heap.size (by simp)).trans (heap_alloc_new w _)
  obtain ⟨W0, hW0⟩ : ∃ W0 : World, W0 = ((w.alloc (.cells #[.int .i8 0, .int .i8 0, .slice none 0 0] 29)).alloc (.cells #[.int .i8 X, .int .i8 Y, .slice none 0 0] 29)).drew := ⟨_, rfl⟩
  rw [← hW0] at hAs B0 HB0 HD0 ⊢
  clear hW0 r0 r1 lq pq qq rq
  have HA := Lib.hid hAs
  have HHB := Lib.hid HB0
  have HHD := Lib.hid HD0
  have HI := Lib.hid hi
  clear hAs HB0 HD0
  go_wp2_with fail
  go_loopw [6] (fun t6 wr => ∃ i : Nat, i ≤ n ∧ t6 = .int .i64 i ∧ Below w.heap.size w wr ∧ w.heap.size + 2 ≤ wr.heap.size ∧ wr.heap[w.heap.size]? = some (.cells #[.int .i8 0, .int .i8 0, .slice none 0 0] 29 (0, 0)) ∧ ∃ v, wr.heap[w.heap.size + 1]? = some (.cells #[.int .i8 X, .int .i8 Y, v] 29 (0, 0)) ∧ OwnS wr (w.heap.size + 2) v (liftN k i) (liftV c k i)) (fun t6 wr => n - (intOf t6).toNat)
  case atStart => exact ⟨0, by omega, by simp, B0, by rw [HA.out]; omega, HHD.out, _, HHB.out, by simpa [liftN, liftV, OwnS] using World.ownsRow_nil _ _ _ _⟩
  case round =>
    clear B0
    obtain ⟨i, hi1, rfl, B, hsz, hD, v, hB, O⟩ := hrel
    have hs2 : bq < wr.heap.size := by have := hq.1; omega
    obtain ⟨lq, pq, qq, rq⟩ := id (hq.of_block B.size (B.block _ hq.1))
    have R := hrow.of_block (B.block _ hrow.lt)
    by_cases hlt : i < n
    · have hli : (i : Int) < (n : Int) := by omega
      by_cases hk' : i = k
      · have bk : ((i : Int) != (k : Int)) = false := by simp [hk']
        have HK := Lib.hid hk'
        have HO := Lib.hid O
        have HB := Lib.hid hB
        clear hk' O hB
        go_wp2
        refine ⟨⟨i + 1, by omega, by first | go_num | simp, B, hsz, hD, v, HB.out, ?_⟩, by simp [intOf]; omega⟩
        have e1 : liftN k (i + 1) = liftN k i := by have := HK.out; unfold liftN; split <;> split <;> omega
        have e2 : liftV c k (i + 1) = liftV c k i := by show (if i = k then _ else _) = _; rw [if_pos HK.out]
        rw [e1, e2]
        exact HO.out
      · have bk : ((i : Int) != (k : Int)) = true := by simp; omega
        have HK := Lib.hid hk'
        have cB := cell_of_row wr (w.heap.size + 1) 2 _ _ _ hB
        have fB := frozen_of_row wr (w.heap.size + 1) 2 _ _ hB
        simp at cB
        have c0 := R.cell (i := 4 * i) (by omega)
        have c1 := R.cell (i := 4 * i + 1) (by omega)
        have c2 := R.cell (i := 4 * i + 2) (by omega)
        have c3 := R.cell (i := 4 * i + 3) (by omega)
        rw [show 4 * i = i * 4 by omega] at c0
        rw [show 4 * i + 1 = i * 4 + 1 by omega] at c1
        rw [show 4 * i + 2 = i * 4 + 2 by omega] at c2
        rw [show 4 * i + 3 = i * 4 + 3 by omega] at c3
        have HO := Lib.hid O
        have HB := Lib.hid hB
        have HDD := Lib.hid hD
        clear hk' O hB hD
        go_wp2
        have hi0 : (0 : Int) ≤ (i : Int) := by omega
        have hnn : liftN k i ≤ 1000 := by unfold liftN; split <;> omega
        have hk0 : KS bq g i n c wr.drew := ⟨hs2, R.lt, rq, c0, c1, c2, c3⟩
        have hss : w.heap.size + 1 < wr.heap.size := by omega
        have hbq := hq.1
        have hlo : ∀ k, v.ownBlock = some k → w.heap.size + 2 ≤ k ∧ k < wr.heap.size := fun k e => World.ownsRow.lt HO.out k e
        have hne1 : some bq ≠ v.ownBlock := fun e => by have := (hlo _ e.symm).1; omega
        have hne2 : some g ≠ v.ownBlock := fun e => by have := (hlo _ e.symm).1; omega
        have HLO := Lib.hid hlo
        have s0 : wr.drew.cell? ⟨g, i * 4, none⟩ = some (.int .i8 (c (i * 4))) := c0
        have s1 : wr.drew.cell? ⟨g, i * 4 + 1, none⟩ = some (.int .i8 (c (i * 4 + 1))) := c1
        have s2 : wr.drew.cell? ⟨g, i * 4 + 2, none⟩ = some (.int .i8 (c (i * 4 + 2))) := c2
        have s3 : wr.drew.cell? ⟨g, i * 4 + 3, none⟩ = some (.int .i8 (c (i * 4 + 3))) := c3
        have sq : wr.drew.cell? ⟨bq, 2, none⟩ = some (.slice (some ⟨g, 0, none⟩) n n) := rq
        have sB : wr.drew.cell? ⟨w.heap.size + 1, 2, none⟩ = some v := cB
        have sB' : (wr.alloc (.cells #[.int .i8 (c (i * 4)), .int .i8 (c (i * 4 + 1)), .int .i8 (c (i * 4 + 2)), .int .i8 (c (i * 4 + 3))] 31)).drew.cell? ⟨w.heap.size + 1, 2, none⟩ = some v := (World.cell?_of_block (w := wr) (Below.heap_alloc wr _ _ hss)).trans cB
        clear hlo c0 c1 c2 c3 lq pq qq rq cB hk0
        go_region_law
          ((refine wp_append_own _ _ _ 27 rfl (w.heap.size + 2) 31 i0 (.agg #[.int .i8 0, .int .i8 0, .int .i8 0, .int .i8 0]) 4 4 Try.underlying27 HI.out hz0 hz1 hz2 rfl (by decide) v (liftN k i) (liftV c k i) rfl (World.ownsRow.alloc (w := wr) HO.out _) ⟨wr.heap.size, 0, none⟩ 1 1 [.int .i8 (c (i * 4)), .int .i8 (c (i * 4 + 1)), .int .i8 (c (i * 4 + 2)), .int .i8 (c (i * 4 + 3))] rfl rfl (new_cells wr #[.int .i8 (c (i * 4)), .int .i8 (c (i * 4 + 1)), .int .i8 (c (i * 4 + 2)), .int .i8 (c (i * 4 + 3))] 31) (by intro u hu; simp at hu; rcases hu with rfl | rfl | rfl | rfl <;> rfl) (by unfold maxLen; omega) (by omega) (by simp; omega) ?_
            intro v' w1 own' hgr _
            obtain ⟨A', cap', rfl⟩ := row_shape own'
            have hv3 : w1.heap[w.heap.size + 1]? = some (.cells #[.int .i8 X, .int .i8 Y, v] 29 (0, 0)) := (hgr.block _ (by simp; omega) (fun e => by have := (HLO.out _ e.symm).1; omega)).trans ((Below.heap_alloc wr _ _ (by omega)).trans HB.out)
            have cB7 := cell_of_row w1 (w.heap.size + 1) 2 _ _ _ hv3
            have fB7 := frozen_of_row w1 (w.heap.size + 1) 2 _ _ hv3
            simp at cB7))
        all_goals
          go_wp2
          refine ⟨⟨i + 1, by omega, by first | go_num | simp, ((al B.drew _).grown hgr (al B.drew _).size (fun k e => by have := (HLO.out k e).1; omega)).setCell (p := ⟨w.heap.size + 1, 2, none⟩) (by simp) _, ?_, ?_, _, heap_setCell_same w1 (w.heap.size + 1) 2 _ _ _ hv3, ?_⟩, by simp [intOf]; omega⟩
          · have := hgr.size; simp at this ⊢; omega
          · exact (Below.heap_setCell w1 _ _ _ (by simp)).trans ((hgr.block _ (by simp; omega) (fun e => by have := (HLO.out _ e.symm).1; omega)).trans ((Below.heap_alloc wr _ _ (by omega)).trans HDD.out))
          · have e1 : liftN k (i + 1) = liftN k i + 1 := by have := HK.out; unfold liftN; split <;> split <;> omega
            have e2 : liftV c k (i + 1) = liftV c k i ++ [.int .i8 (c (i * 4)), .int .i8 (c (i * 4 + 1)), .int .i8 (c (i * 4 + 2)), .int .i8 (c (i * 4 + 3))] := by
              show (if i = k then _ else _) = _
              rw [if_neg HK.out]
              unfold fourV
              rw [show 4 * i = i * 4 by omega]
            rw [e1, e2]
            exact OwnS.set own' (by omega)
    · obtain rfl : i = n := by omega
      have cB0 := cell_of_row wr (w.heap.size + 1) 0 _ _ _ hB
      have cB1 := cell_of_row wr (w.heap.size + 1) 1 _ _ _ hB
      have cB2 := cell_of_row wr (w.heap.size + 1) 2 _ _ _ hB
      simp at cB0 cB1 cB2
      have d0 := cell_of_row wr w.heap.size 0 _ _ _ hD
      have d1 := cell_of_row wr w.heap.size 1 _ _ _ hD
      have d2 := cell_of_row wr w.heap.size 2 _ _ _ hD
      have f0 := frozen_of_row wr w.heap.size 0 _ _ hD
      have f1 := frozen_of_row wr w.heap.size 1 _ _ hD
      have f2 := frozen_of_row wr w.heap.size 2 _ _ hD
      simp at d0 d1 d2
      obtain ⟨A', cap', rfl⟩ := row_shape O
      have HO := Lib.hid O
      have HB := Lib.hid hB
      have HDD := Lib.hid hD
      clear O hB hD
      go_wp2
      obtain ⟨W3, hW3⟩ : ∃ W3, W3 = (((wr.setCell ⟨w.heap.size, 0, none⟩ (.int .i8 X)).setCell ⟨w.heap.size, 1, none⟩ (.int .i8 Y)).setCell ⟨w.heap.size, 2, none⟩ (.slice A' (liftN k i) cap')) := ⟨_, rfl⟩
      have g0 : W3.cell? ⟨w.heap.size, 0, none⟩ = some (.int .i8 X) := by
        rw [hW3, World.cell?_setCell_other _ _ _ _ (by simp), World.cell?_setCell_other _ _ _ _ (by simp)]
        exact World.cell?_setCell_same' _ _ _ (by rw [d0]; rfl)
      have g1 : W3.cell? ⟨w.heap.size, 1, none⟩ = some (.int .i8 Y) := by
        rw [hW3, World.cell?_setCell_other _ _ _ _ (by simp)]
        exact World.cell?_setCell_same' _ _ _ (by rw [World.cell?_setCell_other _ _ _ _ (by simp), d1]; rfl)
      have g2 : W3.cell? ⟨w.heap.size, 2, none⟩ = some (.slice A' (liftN k i) cap') := by
        rw [hW3]
        exact World.cell?_setCell_same' _ _ _ (by rw [World.cell?_setCell_other _ _ _ _ (by simp), World.cell?_setCell_other _ _ _ _ (by simp), d2]; rfl)
      rw [← hW3]
      refine bodyPost_ret (v := .agg #[.int .i8 X, .int .i8 Y, .slice A' (liftN k i) cap']) (by simp [results, Try.results64, go_sem, g0, g1, g2]) rfl ?_
      rw [hW3]
      refine ⟨((B.setCell (p := ⟨w.heap.size, 0, none⟩) (by simp) _).setCell (p := ⟨w.heap.size, 1, none⟩) (by simp) _).setCell (p := ⟨w.heap.size, 2, none⟩) (by simp) _, _, rfl, ?_⟩
      exact World.ownsRow.mono (OwnS.set (OwnS.set (OwnS.set HO.out (by omega)) (by omega)) (by omega)) (by omega)
end Go.Proofs.Yteebkookoidheaa
