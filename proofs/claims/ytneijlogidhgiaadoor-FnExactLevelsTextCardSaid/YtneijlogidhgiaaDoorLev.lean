/-
  Levels and rates of a square: contracts of spec.l06Numbers, impl.areWithin, impl.ValidLevels, impl.areRates. Conditions stand at each.
-/
import Derived.Test.YtneijlogidhgiaaDoorRows
import Derived.Test.YtneijlogidhgiaaDoorSlabN
import Derived.Test.YtneijlogidhgiaaDoorNums
import Derived.Test.YtneijlogidhgiaaDoorIn
import Derived.Test.YtneijlogidhgiaaDoorLay2
import Derived.Test.YtneijlogidhgiaaDoorValidI
namespace Go.Proofs.YtneijlogidhgiaaDoor
open Go Go.ChangeShapes Go.WideShapes Go.ChangeAt Go.RowKit
set_option linter.unusedVariables false
set_option linter.unusedSimpArgs false
set_option maxRecDepth 100000
set_option maxHeartbeats 4000000

/-- do m numbers lie from lo to hi? -/
def allIn (d : Nat → Int) (m : Nat) (lo hi : Int) : Prop := ∀ j, j < m → lo ≤ d j ∧ d j ≤ hi
theorem allIn.step {d : Nat → Int} {k : Nat} {lo hi : Int} (h : allIn d k lo hi) (h1 : lo ≤ d k ∧ d k ≤ hi) : allIn d (k + 1) lo hi := fun j hj => by
  by_cases e : j = k
  · subst e; exact h1
  · exact h j (by omega)
/-- are there as many numbers as slabs of a valid square, all from lo to hi? -/
def NumsOk (X Y : Int) (n : Nat) (c : Nat → Int) (m : Nat) (d : Nat → Int) (lo hi : Int) : Prop := Valid X Y n c ∧ m = n ∧ allIn d m lo hi
def BPost (r : Bool) (w : World) (e : Ending) (w' : World) : Prop := Below w.heap.size w w' ∧ e = .returned (.bool r)

theorem numbers_any (X Y : Int) (bq g n : Nat) (c : Nat → Int) (A : Option Addr) (m cap : Nat) (d : Nat → Int) (lo hi : Int) (r : Bool) (w : World) (hX : -128 ≤ X ∧ X ≤ 127) (hY : -128 ≤ Y ∧ Y ≤ 127) (hc : ∀ j, -128 ≤ c j ∧ c j ≤ 127) (hm : n ≤ 1048576) (hmm : m ≤ 1048576)
    (hq : Sq w bq X Y (.slice (some ⟨g, 0, none⟩) n n)) (hrow : w.rowIs g 77 (4 * n) (fun j => .int .i8 (c j))) (hr : RdK .i64 w w.heap.size A m d) (hrr : r = true ↔ NumsOk X Y n c m d lo hi) :
    Calls Tryd.prog 43 #[.pointer (some ⟨bq, 0, none⟩), .slice A m cap, .int .i64 lo, .int .i64 hi] w (BPost r w) := by
  have HR := Lib.hid hr
  have HRR := Lib.hid hrr
  have HC := Lib.hid hc
  clear hr hrr hc
  go_enter Tryd.func43, Tryd.ntmps43
  go_wp2
  go_loopw [9] (fun ti wr => ∃ k : Nat, k ≤ m ∧ ti = .int .i64 k ∧ Below w.heap.size w wr ∧ allIn d k lo hi) (fun ti wr => m - (intOf ti).toNat)
  case atStart => exact ⟨0, by omega, rfl, Below.refl _ _, fun j hj => by omega⟩
  case round =>
    obtain ⟨k, hk, rfl, hb, hall⟩ := hrel
    have HA := Lib.hid hall
    clear hall
    by_cases hlt : k < m
    · have hki : (k : Int) < (m : Int) := by omega
      obtain ⟨b, off, rfl, hbl, c0⟩ := rdInt64 (HR.out.below hb) hlt
      by_cases hin : lo ≤ d k ∧ d k ≤ hi
      · have HI := Lib.hid hin
        have HL := Lib.hid (fun W => in_yes (d k) lo hi W hin.1 hin.2)
        clear hin
        go_wp2_with (go_at_call 36; refine (HL.out _).mono ?_; rintro e w2 ⟨rfl, hw1⟩; replace hw1 := hw1.symm; subst hw1)
        exact ⟨⟨k + 1, by omega, by first | go_num | simp, hb, HA.out.step HI.out⟩, by simp [intOf]; omega⟩
      · have HI := Lib.hid hin
        have HL := Lib.hid (fun W => in_no (d k) lo hi W hin)
        clear hin
        have hf : r = false := Bool.eq_false_iff.2 fun h => HI.out ((HRR.out.1 h).2.2 k hlt)
        subst hf
        go_wp2_with (go_at_call 36; refine (HL.out _).mono ?_; rintro e w2 ⟨rfl, hw1⟩; replace hw1 := hw1.symm; subst hw1)
        go_ret
        exact ⟨hb, rfl⟩
    · obtain rfl : k = m := by omega
      have hki : ¬ ((k : Int) < (k : Int)) := by omega
      have hq1 := hq.of_block hb.size (hb.block _ hq.1)
      have hrow1 := hrow.of_block (hb.block _ hrow.lt)
      clear hq hrow
      obtain ⟨wo, rfl⟩ : ∃ wo : World, wo = wr := ⟨_, rfl⟩
      go_wp2_with fail
      refine (ok_any X Y bq g n c _ hX hY HC.out hm hq1 hrow1).mono ?_
      rintro e w1 ⟨hb1, ⟨hv, rfl⟩ | ⟨hv, rfl⟩⟩
      · replace hq1 := hq1.below hb1
        have hb2 := nxt hb hb1
        clear hb hb1
        obtain ⟨lq, pq, qq, rq⟩ := id hq1
        have HV := Lib.hid hv
        clear hv
        by_cases hmn : k = n
        · have d1 : ((k : Int) == (n : Int)) = true := by rw [hmn]; exact beq_self_eq_true _
          have HM := Lib.hid hmn
          clear hmn
          have ht : r = true := HRR.out.2 ⟨HV.out, HM.out, HA.out⟩
          subst ht
          go_wp2
          go_ret
          exact ⟨hb2, rfl⟩
        · have d1 : ((k : Int) == (n : Int)) = false := by rw [beq_eq_false_iff_ne]; omega
          have HM := Lib.hid hmn
          clear hmn
          have hf : r = false := Bool.eq_false_iff.2 fun h => HM.out (HRR.out.1 h).2.1
          subst hf
          go_wp2
          go_ret
          exact ⟨hb2, rfl⟩
      · have hf : r = false := Bool.eq_false_iff.2 fun h => hv (HRR.out.1 h).1
        subst hf
        have hb2 := nxt hb hb1
        clear hb hb1 hv
        go_wp2
        go_ret
        exact ⟨hb2, rfl⟩

theorem specLevels_any (X Y : Int) (bq g n : Nat) (c : Nat → Int) (A : Option Addr) (m cap : Nat) (d : Nat → Int) (r : Bool) (w : World) (hX : -128 ≤ X ∧ X ≤ 127) (hY : -128 ≤ Y ∧ Y ≤ 127) (hc : ∀ j, -128 ≤ c j ∧ c j ≤ 127) (hm : n ≤ 1048576) (hmm : m ≤ 1048576)
    (hq : Sq w bq X Y (.slice (some ⟨g, 0, none⟩) n n)) (hrow : w.rowIs g 77 (4 * n) (fun j => .int .i8 (c j))) (hr : RdK .i64 w w.heap.size A m d) (hrr : r = true ↔ NumsOk X Y n c m d (-100) 100) :
    Calls Tryd.prog 31 #[.pointer (some ⟨bq, 0, none⟩), .slice A m cap] w (BPost r w) := by
  have H := Lib.hid (numbers_any X Y bq g n c A m cap d (-100) 100 r w hX hY hc hm hmm hq hrow hr hrr)
  clear hr hrr hc hrow hq
  go_enter Tryd.func31, Tryd.ntmps31
  go_wp2_with fail
  refine H.out.mono ?_
  rintro e w1 ⟨hb, rfl⟩
  go_wp2
  go_ret
  exact ⟨hb, rfl⟩

theorem within_any (lo hi : Int) (A : Option Addr) (m cap : Nat) (d : Nat → Int) (r : Bool) (w : World) (hmm : m ≤ 1048576) (hr : RdK .i64 w w.heap.size A m d) (hrr : r = true ↔ allIn d m lo hi) :
    Calls Tryd.prog 46 #[.int .i64 lo, .int .i64 hi, .slice A m cap] w (BPost r w) := by
  have HR := Lib.hid hr
  have HRR := Lib.hid hrr
  clear hr hrr
  go_enter Tryd.func46, Tryd.ntmps46
  go_wp2
  go_loopw [8, 11] (fun t8 ti wr => ∃ k : Nat, k ≤ m ∧ ti = .int .i64 k ∧ Below w.heap.size w wr ∧ allIn d k lo hi) (fun t8 ti wr => m - (intOf ti).toNat)
  case atStart => exact ⟨0, by omega, rfl, Below.refl _ _, fun j hj => by omega⟩
  case round =>
    obtain ⟨k, hk, rfl, hb, hall⟩ := hrel
    have HA := Lib.hid hall
    clear hall
    by_cases hlt : k < m
    · have hki : (k : Int) < (m : Int) := by omega
      obtain ⟨b, off, rfl, hbl, c0⟩ := rdInt64 (HR.out.below hb) hlt
      by_cases h1 : d k < lo
      · have hf : r = false := Bool.eq_false_iff.2 fun h => by have := HRR.out.1 h k hlt; omega
        subst hf
        go_wp2
        go_ret
        exact ⟨hb, rfl⟩
      · by_cases h2 : hi < d k
        · have hf : r = false := Bool.eq_false_iff.2 fun h => by have := HRR.out.1 h k hlt; omega
          subst hf
          go_wp2
          go_ret
          exact ⟨hb, rfl⟩
        · have HI : Hid (lo ≤ d k ∧ d k ≤ hi) := Lib.hid ⟨by omega, by omega⟩
          go_wp2
          exact ⟨⟨k + 1, by omega, by first | go_num | simp, hb, HA.out.step HI.out⟩, by simp [intOf]; omega⟩
    · obtain rfl : k = m := by omega
      have hki : ¬ ((k : Int) < (k : Int)) := by omega
      have ht : r = true := HRR.out.2 HA.out
      subst ht
      go_wp2
      go_ret
      exact ⟨hb, rfl⟩

theorem implLevels_any (X Y : Int) (g n : Nat) (c : Nat → Int) (A : Option Addr) (m cap : Nat) (d : Nat → Int) (r : Bool) (w : World) (hX : -128 ≤ X ∧ X ≤ 127) (hY : -128 ≤ Y ∧ Y ≤ 127) (hc : ∀ j, -128 ≤ c j ∧ c j ≤ 127) (hm : n ≤ 1048576) (hmm : m ≤ 1048576)
    (hrow : w.rowIs g 77 (4 * n) (fun j => .int .i8 (c j))) (hr : RdK .i64 w w.heap.size A m d) (hrr : r = true ↔ NumsOk X Y n c m d (-100) 100) :
    Calls Tryd.prog 34 #[.agg #[.int .i8 X, .int .i8 Y, .slice (some ⟨g, 0, none⟩) n n], .slice A m cap] w (BPost r w) := by
  have HR := Lib.hid hr
  have HRR := Lib.hid hrr
  have HC := Lib.hid hc
  clear hr hrr hc
  go_enter Tryd.func34, Tryd.ntmps34
  go_wp2_with fail
  have HQ := Sq.new w X Y (.slice (some ⟨g, 0, none⟩) n n) 42
  have B := al (Below.refl w.heap.size w) (.cells #[.int .i8 X, .int .i8 Y, .slice (some ⟨g, 0, none⟩) n n] 42)
  refine (implValid_any X Y g n c _ hX hY HC.out hm (hrow.of_block (B.block _ hrow.lt))).mono ?_
  rintro e w1 ⟨hb, ⟨hv, rfl⟩ | ⟨hv, rfl⟩⟩
  · replace HQ := HQ.below hb
    replace B := nxt B hb
    clear hb
    obtain ⟨lq, pq, qq, rq⟩ := id HQ
    have HV := Lib.hid hv
    clear hv
    by_cases hmn : m = n
    · have d1 : ((m : Int) == (n : Int)) = true := by rw [hmn]; exact beq_self_eq_true _
      have HM := Lib.hid hmn
      clear hmn
      obtain ⟨r', hr'⟩ : ∃ r' : Bool, r' = true ↔ allIn d m (-100) 100 := by
        by_cases h : allIn d m (-100) 100
        · exact ⟨true, by simp [h]⟩
        · exact ⟨false, by simp [h]⟩
      have he : r = r' := by
        rw [Bool.eq_iff_iff]
        exact ⟨fun h => hr'.2 (HRR.out.1 h).2.2, fun h => HRR.out.2 ⟨HV.out, HM.out, hr'.1 h⟩⟩
      subst he
      have HR' := Lib.hid hr'
      clear hr'
      go_wp2_with fail
      refine (within_any (-100) 100 A m cap d _ _ hmm ((HR.out.below B).mono B.size) HR'.out).mono ?_
      rintro e w2 ⟨hb2, rfl⟩
      replace B := nxt B hb2
      clear hb2
      go_wp2
      go_ret
      exact ⟨B, rfl⟩
    · have d1 : ((m : Int) == (n : Int)) = false := by rw [beq_eq_false_iff_ne]; omega
      have hf : r = false := Bool.eq_false_iff.2 fun h => hmn (HRR.out.1 h).2.1
      subst hf
      clear hmn
      go_wp2
      go_ret
      exact ⟨B, rfl⟩
  · have hf : r = false := Bool.eq_false_iff.2 fun h => hv (HRR.out.1 h).1
    subst hf
    replace B := nxt B hb
    clear hb hv
    go_wp2
    go_ret
    exact ⟨B, rfl⟩
end Go.Proofs.YtneijlogidhgiaaDoor
