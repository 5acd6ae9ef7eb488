/-
  The program's LiftAll. Conditions stand at each.
-/
import Derived.Test.YtkggimalkjjnoaaRows
import Derived.Test.YtkggimalkjjnoaaLiftAllM
import Derived.Test.YtkggimalkjjnoaaLiftSlabB
import Derived.Test.YtkggimalkjjnoaaRet
import Derived.Test.YtkggimalkjjnoaaDrew
import Derived.Test.YtkggimalkjjnoaaStCode
import Derived.Test.YtkggimalkjjnoaaValidI
import Derived.Deep.RegionHeld3
namespace Go.Proofs.Ytkggimalkjjnoaa
open Go Go.ChangeShapes Go.WideShapes Go.ChangeAt Go.RowKit
set_option linter.unusedVariables false
set_option linter.unusedSimpArgs false
set_option maxRecDepth 100000
set_option maxHeartbeats 8000000
namespace liftAll
def isFalse : Option Value → Bool
  | some (.bool false) => true
  | _ => false
theorem isFalse_of {o : Option Value} (h : isFalse o = true) : o = some (.bool false) := by
  unfold isFalse at h
  split at h
  · rfl
  · cases h
theorem z60_size : (#[.bool false, .bool false, .bool false, .bool false, .bool false, .bool false, .bool false, .bool false, .bool false, .bool false, .bool false, .bool false, .bool false, .bool false, .bool false, .bool false, .bool false, .bool false, .bool false, .bool false, .bool false, .bool false, .bool false, .bool false, .bool false, .bool false, .bool false, .bool false, .bool false, .bool false, .bool false, .bool false, .bool false, .bool false, .bool false, .bool false, .bool false, .bool false, .bool false, .bool false, .bool false, .bool false, .bool false, .bool false, .bool false, .bool false, .bool false, .bool false, .bool false, .bool false, .bool false, .bool false, .bool false, .bool false, .bool false, .bool false, .bool false, .bool false, .bool false, .bool false] : Array Value).size = 60 := by kernel_rfl
theorem z60_cell (p : Nat) (h : p < 60) : (#[.bool false, .bool false, .bool false, .bool false, .bool false, .bool false, .bool false, .bool false, .bool false, .bool false, .bool false, .bool false, .bool false, .bool false, .bool false, .bool false, .bool false, .bool false, .bool false, .bool false, .bool false, .bool false, .bool false, .bool false, .bool false, .bool false, .bool false, .bool false, .bool false, .bool false, .bool false, .bool false, .bool false, .bool false, .bool false, .bool false, .bool false, .bool false, .bool false, .bool false, .bool false, .bool false, .bool false, .bool false, .bool false, .bool false, .bool false, .bool false, .bool false, .bool false, .bool false, .bool false, .bool false, .bool false, .bool false, .bool false, .bool false, .bool false, .bool false, .bool false] : Array Value)[p]? = some (.bool false) := by
  have hall : (List.range 60).all (fun p => isFalse (#[.bool false, .bool false, .bool false, .bool false, .bool false, .bool false, .bool false, .bool false, .bool false, .bool false, .bool false, .bool false, .bool false, .bool false, .bool false, .bool false, .bool false, .bool false, .bool false, .bool false, .bool false, .bool false, .bool false, .bool false, .bool false, .bool false, .bool false, .bool false, .bool false, .bool false, .bool false, .bool false, .bool false, .bool false, .bool false, .bool false, .bool false, .bool false, .bool false, .bool false, .bool false, .bool false, .bool false, .bool false, .bool false, .bool false, .bool false, .bool false, .bool false, .bool false, .bool false, .bool false, .bool false, .bool false, .bool false, .bool false, .bool false, .bool false, .bool false, .bool false] : Array Value)[p]?) = true := by kernel_rfl
  exact isFalse_of (List.all_eq_true.1 hall p (List.mem_range.2 h))
open Classical in
noncomputable def mkB (k : Nat) (l : Nat → Int) (j : Nat) : Value := if InL k l (j : Int) then .bool true else .bool false
theorem mkB_yes {k : Nat} {l : Nat → Int} {j : Nat} (h : InL k l (j : Int)) : mkB k l j = .bool true := if_pos h
theorem mkB_no {k : Nat} {l : Nat → Int} {j : Nat} (h : ¬ InL k l (j : Int)) : mkB k l j = .bool false := if_neg h
theorem mkB_zero (l : Nat → Int) (j : Nat) : mkB 0 l j = .bool false := mkB_no (fun ⟨i, hi, _⟩ => by omega)
theorem mkB_succ {k x : Nat} {l : Nat → Int} (h : l k = (x : Int)) (j : Nat) : (if j = x then Value.bool true else mkB k l j) = mkB (k + 1) l j := by
  by_cases e : j = x
  · rw [if_pos e, mkB_yes ⟨k, by omega, by rw [h, e]⟩]
  · rw [if_neg e]
    by_cases hi : InL k l (j : Int)
    · obtain ⟨i, h1, h2⟩ := hi
      rw [mkB_yes ⟨i, h1, h2⟩, mkB_yes ⟨i, by omega, h2⟩]
    · rw [mkB_no hi, mkB_no]
      rintro ⟨i, h1, h2⟩
      by_cases hik : i < k
      · exact hi ⟨i, hik, h2⟩
      · obtain rfl : i = k := by omega
        rw [h] at h2
        omega
theorem impl_any (X Y : Int) (g n : Nat) (c : Nat → Int) (A : Option Addr) (m cap : Nat) (l : Nat → Int) (w : World) (hX : -128 ≤ X ∧ X ≤ 127) (hY : -128 ≤ Y ∧ Y ≤ 127) (hc : ∀ j, -128 ≤ c j ∧ c j ≤ 127) (hm : n ≤ 1048576) (hn : m ≤ 1048576) (hcap : m ≤ cap) (hrow : w.rowIs g 55 (4 * n) (fun j => .int .i8 (c j))) (hr : RdK .i64 w w.heap.size A m l) :
    Calls Try.prog 40 #[.agg #[.int .i8 X, .int .i8 Y, .slice (some ⟨g, 0, none⟩) n n], .slice A m cap] w (Post X Y n c m l w) := by
  have HC := Lib.hid hc
  have HR := Lib.hid hr
  have HROW := Lib.hid hrow
  have hgl := hrow.lt
  obtain ⟨i0, hi, hz0, hz1, hz2⟩ := info_parts infoSlab
  have HI := Lib.hid hi
  clear hc hr hrow hi
  go_enter Try.func40, Try.ntmps40
  go_wp2_with fail
  have HQ := (Sq.new w X Y (.slice (some ⟨g, 0, none⟩) n n) 34).alloc (.cells #[.int .i8 0, .int .i8 0, .slice none 0 0] 34)
  have H1 : Bx ((w.alloc (.cells #[.int .i8 X, .int .i8 Y, .slice (some ⟨g, 0, none⟩) n n] 34)).alloc (.cells #[.int .i8 0, .int .i8 0, .slice none 0 0] 34)) (w.heap.size + 1) #[.int .i8 0, .int .i8 0, .slice none 0 0] 34 := by
    have := Bx.new (w.alloc (.cells #[.int .i8 X, .int .i8 Y, .slice (some ⟨g, 0, none⟩) n n] 34)) #[.int .i8 0, .int .i8 0, .slice none 0 0] 34
    rwa [World.size_alloc] at this
  have B := al (al (Below.refl w.heap.size w) (.cells #[.int .i8 X, .int .i8 Y, .slice (some ⟨g, 0, none⟩) n n] 34)) (.cells #[.int .i8 0, .int .i8 0, .slice none 0 0] 34)
  obtain ⟨W0, hW0⟩ : ∃ W0 : World, W0 = ((w.alloc (.cells #[.int .i8 X, .int .i8 Y, .slice (some ⟨g, 0, none⟩) n n] 34)).alloc (.cells #[.int .i8 0, .int .i8 0, .slice none 0 0] 34)) := ⟨_, rfl⟩
  have hs0 : W0.heap.size = w.heap.size + 2 := by rw [hW0]; simp
  rw [← hW0] at HQ H1 B ⊢
  have hs0 := Lib.hid hs0
  clear hW0
  obtain ⟨lq, pq, qq, rq⟩ := id HQ
  refine (implValid_any X Y g n c _ hX hY HC.out hm (HROW.out.of_block (B.block _ hgl))).mono ?_
  rintro e W ⟨hb, ⟨hv, rfl⟩ | ⟨hv, rfl⟩⟩
  case inr =>
    have HV := Lib.hid hv
    clear hv
    replace HQ := HQ.below hb
    replace H1 := H1.below hb
    replace B := nxt B hb
    clear hb
    have hsz1 : w.heap.size + 1 < W.heap.size := H1.lt
    have hszB : w.heap.size ≤ W.heap.size := B.size
    obtain ⟨p1, q1, r1⟩ := H1.cells3
    have f10 := H1.frozen 0
    have f11 := H1.frozen 1
    have f12 := H1.frozen 2
    go_wp2_with fail
    have F1 := H1.set3 (.int .i8 0) (.int .i8 0) (.slice none 0 0)
    have B3 := below_set3 (g := w.heap.size + 1) (v0 := .int .i8 0) (v1 := .int .i8 0) (v2 := .slice none 0 0) B (by omega)
    obtain ⟨x1, y1, z1⟩ := F1.cells3
    refine bodyPost_ret (v := .tuple #[.agg #[.int .i8 0, .int .i8 0, .slice none 0 0], .slice none 0 0, .int .i64 1]) ?_ ?_ ?_
    · simp [results, Try.results40, go_sem, x1, y1, z1]
    · rfl
    exact .inl ⟨HV.out, B3, _, _, rfl, World.ownsRow_nil _ _ _ _, World.ownsRow_nil _ _ _ _, .inl rfl⟩
  have HV := Lib.hid hv
  have hn60 : n ≤ 60 := hv.2.2.2.2.1
  clear hv lq pq qq rq
  replace HQ := HQ.below hb
  replace H1 := H1.below hb
  replace B := nxt B hb
  clear hb
  go_wp2_with fail
  go_loopw [5, 6, 8, 22] (fun t5 t6 t8 t22 wr => ∃ k : Nat, k ≤ m ∧ t22 = .int .i64 k ∧ (∀ i, i < k → 0 ≤ l i ∧ l i < n) ∧ Below w.heap.size w wr ∧ Sq wr w.heap.size X Y (.slice (some ⟨g, 0, none⟩) n n) ∧ Bx wr (w.heap.size + 1) #[.int .i8 0, .int .i8 0, .slice none 0 0] 34) (fun t5 t6 t8 t22 wr => m - (intOf t22).toNat)
  case atStart => exact ⟨0, by omega, rfl, fun i hi => by omega, B, HQ, H1⟩
  case round =>
    clear B HQ H1
    obtain ⟨k, hk, rfl, hall, B, HQ, H1⟩ := hrel
    have HALL := Lib.hid hall
    clear hall
    by_cases hlt : k < m
    · have hki : (k : Int) < (m : Int) := by omega
      have hk0 : (0 : Int) ≤ (k : Int) := by omega
      obtain ⟨b, off, rfl, hbl, c0⟩ := rdInt64 (HR.out.below B) hlt
      obtain ⟨lq, pq, qq, rq⟩ := id HQ
      by_cases h : 0 ≤ l k ∧ l k < n
      · have H := Lib.hid h
        have hd := decide_eq_true h
        obtain ⟨x, hx⟩ : ∃ x, x = l k := ⟨_, rfl⟩
        rw [← hx] at c0 hd
        clear hx h
        go_wp2_with fail
        refine (liftSlab.hasSlab_any X Y x _ n n _ hm).mono ?_
        rintro e w1 ⟨rfl, hb⟩
        clear lq pq qq rq
        replace HQ := HQ.below hb
        replace H1 := H1.below hb
        replace B := nxt B hb
        clear hb
        rw [hd]
        clear c0 hd
        go_wp2_with fail
        exact ⟨⟨k + 1, by omega, by first | go_num | simp, fun i hi => (by
          by_cases hik : i < k
          · exact HALL.out i hik
          · obtain rfl : i = k := by omega
            exact H.out), B, HQ, H1⟩, by simp [intOf]; omega⟩
      · have HN : Hid (¬ InAll n m l) := Lib.hid (fun ha => h (ha k hlt))
        have hd := decide_eq_false h
        obtain ⟨x, hx⟩ : ∃ x, x = l k := ⟨_, rfl⟩
        rw [← hx] at c0 hd
        clear hx h
        go_wp2_with fail
        refine (liftSlab.hasSlab_any X Y x _ n n _ hm).mono ?_
        rintro e w1 ⟨rfl, hb⟩
        clear lq pq qq rq
        replace HQ := HQ.below hb
        replace H1 := H1.below hb
        replace B := nxt B hb
        clear hb
        rw [hd]
        clear c0 hd
        have hsz1 : w.heap.size + 1 < w1.heap.size := H1.lt
        have hszB : w.heap.size ≤ w1.heap.size := B.size
        obtain ⟨p1, q1, r1⟩ := H1.cells3
        have f10 := H1.frozen 0
        have f11 := H1.frozen 1
        have f12 := H1.frozen 2
        go_wp2_with fail
        have F1 := H1.set3 (.int .i8 0) (.int .i8 0) (.slice none 0 0)
        have B3 := below_set3 (g := w.heap.size + 1) (v0 := .int .i8 0) (v1 := .int .i8 0) (v2 := .slice none 0 0) B (by omega)
        obtain ⟨x1, y1, z1⟩ := F1.cells3
        refine bodyPost_ret (v := .tuple #[.agg #[.int .i8 0, .int .i8 0, .slice none 0 0], .slice none 0 0, .int .i64 2]) ?_ ?_ ?_
        · simp [results, Try.results40, go_sem, x1, y1, z1]
        · rfl
        exact .inr (.inl ⟨HV.out, HN.out, B3, _, _, rfl, World.ownsRow_nil _ _ _ _, World.ownsRow_nil _ _ _ _, .inl rfl⟩)
    obtain rfl : m = k := by omega
    have HIN : Hid (InAll n m l) := HALL
    have hki : ¬ ((m : Int) < (m : Int)) := by omega
    clear HALL hlt hk
    have hsz1 : w.heap.size + 1 < wr.heap.size := H1.lt
    have M : (wr.alloc (.cells #[.bool false, .bool false, .bool false, .bool false, .bool false, .bool false, .bool false, .bool false, .bool false, .bool false, .bool false, .bool false, .bool false, .bool false, .bool false, .bool false, .bool false, .bool false, .bool false, .bool false, .bool false, .bool false, .bool false, .bool false, .bool false, .bool false, .bool false, .bool false, .bool false, .bool false, .bool false, .bool false, .bool false, .bool false, .bool false, .bool false, .bool false, .bool false, .bool false, .bool false, .bool false, .bool false, .bool false, .bool false, .bool false, .bool false, .bool false, .bool false, .bool false, .bool false, .bool false, .bool false, .bool false, .bool false, .bool false, .bool false, .bool false, .bool false, .bool false, .bool false] 135)).rowIs wr.heap.size 135 60 (mkB 0 l) := ⟨#[.bool false, .bool false, .bool false, .bool false, .bool false, .bool false, .bool false, .bool false, .bool false, .bool false, .bool false, .bool false, .bool false, .bool false, .bool false, .bool false, .bool false, .bool false, .bool false, .bool false, .bool false, .bool false, .bool false, .bool false, .bool false, .bool false, .bool false, .bool false, .bool false, .bool false, .bool false, .bool false, .bool false, .bool false, .bool false, .bool false, .bool false, .bool false, .bool false, .bool false, .bool false, .bool false, .bool false, .bool false, .bool false, .bool false, .bool false, .bool false, .bool false, .bool false, .bool false, .bool false, .bool false, .bool false, .bool false, .bool false, .bool false, .bool false, .bool false, .bool false], heap_alloc_new wr _, z60_size, fun p hp => by rw [mkB_zero]; exact z60_cell p hp⟩
    replace H1 := H1.alloc (.cells #[.bool false, .bool false, .bool false, .bool false, .bool false, .bool false, .bool false, .bool false, .bool false, .bool false, .bool false, .bool false, .bool false, .bool false, .bool false, .bool false, .bool false, .bool false, .bool false, .bool false, .bool false, .bool false, .bool false, .bool false, .bool false, .bool false, .bool false, .bool false, .bool false, .bool false, .bool false, .bool false, .bool false, .bool false, .bool false, .bool false, .bool false, .bool false, .bool false, .bool false, .bool false, .bool false, .bool false, .bool false, .bool false, .bool false, .bool false, .bool false, .bool false, .bool false, .bool false, .bool false, .bool false, .bool false, .bool false, .bool false, .bool false, .bool false, .bool false, .bool false] 135)
    replace HQ := HQ.alloc (.cells #[.bool false, .bool false, .bool false, .bool false, .bool false, .bool false, .bool false, .bool false, .bool false, .bool false, .bool false, .bool false, .bool false, .bool false, .bool false, .bool false, .bool false, .bool false, .bool false, .bool false, .bool false, .bool false, .bool false, .bool false, .bool false, .bool false, .bool false, .bool false, .bool false, .bool false, .bool false, .bool false, .bool false, .bool false, .bool false, .bool false, .bool false, .bool false, .bool false, .bool false, .bool false, .bool false, .bool false, .bool false, .bool false, .bool false, .bool false, .bool false, .bool false, .bool false, .bool false, .bool false, .bool false, .bool false, .bool false, .bool false, .bool false, .bool false, .bool false, .bool false] 135)
    replace B := al B (.cells #[.bool false, .bool false, .bool false, .bool false, .bool false, .bool false, .bool false, .bool false, .bool false, .bool false, .bool false, .bool false, .bool false, .bool false, .bool false, .bool false, .bool false, .bool false, .bool false, .bool false, .bool false, .bool false, .bool false, .bool false, .bool false, .bool false, .bool false, .bool false, .bool false, .bool false, .bool false, .bool false, .bool false, .bool false, .bool false, .bool false, .bool false, .bool false, .bool false, .bool false, .bool false, .bool false, .bool false, .bool false, .bool false, .bool false, .bool false, .bool false, .bool false, .bool false, .bool false, .bool false, .bool false, .bool false, .bool false, .bool false, .bool false, .bool false, .bool false, .bool false] 135)
    obtain ⟨s, hs⟩ : ∃ s, s = wr.heap.size := ⟨_, rfl⟩
    have hss : w.heap.size + 2 ≤ s := by omega
    go_wp2_with fail
    obtain ⟨W3, hW3⟩ : ∃ W3 : World, W3 = wr.alloc (.cells #[.bool false, .bool false, .bool false, .bool false, .bool false, .bool false, .bool false, .bool false, .bool false, .bool false, .bool false, .bool false, .bool false, .bool false, .bool false, .bool false, .bool false, .bool false, .bool false, .bool false, .bool false, .bool false, .bool false, .bool false, .bool false, .bool false, .bool false, .bool false, .bool false, .bool false, .bool false, .bool false, .bool false, .bool false, .bool false, .bool false, .bool false, .bool false, .bool false, .bool false, .bool false, .bool false, .bool false, .bool false, .bool false, .bool false, .bool false, .bool false, .bool false, .bool false, .bool false, .bool false, .bool false, .bool false, .bool false, .bool false, .bool false, .bool false, .bool false, .bool false] 135) := ⟨_, rfl⟩
    rw [← hW3] at M HQ H1 B ⊢
    rw [← hs] at M ⊢
    clear hs hsz1 hW3
    go_loopw [5, 6, 10, 13, 34] (fun t5 t6 t10 t13 t34 wr => ∃ k : Nat, k ≤ m ∧ t34 = .int .i64 k ∧ OwnS wr (s + 1) t10 k (upV c l k) ∧ wr.rowIs s 135 60 (mkB k l) ∧ Apart1 k l ∧ Below w.heap.size w wr ∧ Sq wr w.heap.size X Y (.slice (some ⟨g, 0, none⟩) n n) ∧ Bx wr (w.heap.size + 1) #[.int .i8 0, .int .i8 0, .slice none 0 0] 34) (fun t5 t6 t10 t13 t34 wr => m - (intOf t34).toNat)
    case atStart => exact ⟨0, by omega, rfl, World.ownsRow_nil _ _ _ _, M, fun i hi => by omega, B, HQ, H1⟩
    case round =>
      clear B HQ H1 M
      obtain ⟨k, hk, rfl, O, M, hap, B, HQ, H1⟩ := hrel
      obtain ⟨v1, rfl⟩ : ∃ v1 : Value, v1 = u10 := ⟨_, rfl⟩
      have HAP := Lib.hid hap
      have HO := Lib.hid O
      have HM := Lib.hid M
      have hsl : s < wr.heap.size := M.lt
      clear hap O
      by_cases hlt : k < m
      · have hki : (k : Int) < (m : Int) := by omega
        have hk0 : (0 : Int) ≤ (k : Int) := by omega
        obtain ⟨b, off, rfl, hbl, cl⟩ := rdInt64 (HR.out.below B) hlt
        obtain ⟨hx0, hxn⟩ := HIN.out k hlt
        obtain ⟨x, hx⟩ := Int.eq_ofNat_of_zero_le hx0
        have hxn' : (x : Int) < (n : Int) := by rw [← hx]; exact hxn
        have HX := Lib.hid hx
        rw [hx] at cl
        clear hx hx0 hxn
        have hx0 : (0 : Int) ≤ (x : Int) := by omega
        have hx60 : (x : Int) < 60 := by omega
        have cm := M.cell (i := x) (by omega)
        by_cases h : InL k l (x : Int)
        · have HN : Hid (¬ Apart1 m l) := Lib.hid (apart_not hlt (by rw [HX.out]; exact h))
          rw [mkB_yes h] at cm
          clear h M
          have hsz1 : w.heap.size + 1 < wr.heap.size := H1.lt
          have hszB : w.heap.size ≤ wr.heap.size := B.size
          obtain ⟨p1, q1, r1⟩ := H1.cells3
          have f10 := H1.frozen 0
          have f11 := H1.frozen 1
          have f12 := H1.frozen 2
          go_wp2_with fail
          have F1 := H1.set3 (.int .i8 0) (.int .i8 0) (.slice none 0 0)
          have B3 := below_set3 (g := w.heap.size + 1) (v0 := .int .i8 0) (v1 := .int .i8 0) (v2 := .slice none 0 0) B (by omega)
          obtain ⟨x1, y1, z1⟩ := F1.cells3
          refine bodyPost_ret (v := .tuple #[.agg #[.int .i8 0, .int .i8 0, .slice none 0 0], .slice none 0 0, .int .i64 4]) ?_ ?_ ?_
          · simp [results, Try.results40, go_sem, x1, y1, z1]
          · rfl
          exact .inr (.inr (.inl ⟨HV.out, HIN.out, HN.out, B3, _, _, rfl, World.ownsRow_nil _ _ _ _, World.ownsRow_nil _ _ _ _, .inl rfl⟩))
        · have HAN := Lib.hid (apart_next HAP.out (by rw [HX.out]; exact h))
          rw [mkB_no h] at cm
          clear h
          have fm : wr.frozen? ⟨s, x, none⟩ = false := by
            obtain ⟨cs, hcs, _⟩ := M
            exact frozen_of_row wr s x cs _ hcs
          obtain ⟨lq, pq, qq, rq⟩ := id HQ
          have R := HROW.out.of_block (B.block _ hgl)
          have c0 := R.cell (i := 4 * x) (by omega)
          have c1 := R.cell (i := 4 * x + 1) (by omega)
          have c2 := R.cell (i := 4 * x + 2) (by omega)
          have c3 := R.cell (i := 4 * x + 3) (by omega)
          rw [show 4 * x = x * 4 by omega] at c0
          rw [show 4 * x + 1 = x * 4 + 1 by omega] at c1
          rw [show 4 * x + 2 = x * 4 + 2 by omega] at c2
          rw [show 4 * x + 3 = x * 4 + 3 by omega] at c3
          have hgs : g ≠ s := by omega
          have hqs : w.heap.size ≠ s := by omega
          have hbs : b ≠ s := by omega
          have O5 : OwnS (wr.setCell ⟨s, x, none⟩ (.bool true)) (s + 1) v1 k (upV c l k) := OwnS.set HO.out (by omega)
          have HO5 := Lib.hid O5
          have NC := new_cells (wr.setCell ⟨s, x, none⟩ (.bool true)) #[.int .i8 (c (x * 4)), .int .i8 (c (x * 4 + 1)), .int .i8 (c (x * 4 + 2)), .int .i8 (c (x * 4 + 3))] 55
          rw [show (wr.setCell ⟨s, x, none⟩ (.bool true)).heap.size = wr.heap.size by simp] at NC
          have HNC := Lib.hid NC
          clear M R O5 NC
          go_wp2_with (at_builtin; refine wpList_append_own _ rfl _ _ 32 rfl (s + 1) 55 i0 (.agg #[.int .i8 0, .int .i8 0, .int .i8 0, .int .i8 0]) 4 4 Try.underlying32 HI.out hz0 hz1 hz2 rfl (by decide) v1 k (upV c l k) rfl (World.ownsRow.alloc (w := (wr.setCell ⟨s, x, none⟩ (.bool true))) HO5.out _) ⟨wr.heap.size, 0, none⟩ 1 1 [.int .i8 (c (x * 4)), .int .i8 (c (x * 4 + 1)), .int .i8 (c (x * 4 + 2)), .int .i8 (c (x * 4 + 3))] rfl rfl HNC.out (by intro u hu; simp at hu; rcases hu with rfl | rfl | rfl | rfl <;> rfl) (by unfold maxLen; omega) (by omega) (by simp; omega) ?_; intro v' w1 own' hgr _)
          have hM5 : (wr.setCell ⟨s, x, none⟩ (.bool true)).rowIs s 135 60 (mkB (k + 1) l) := (HM.out.set x (.bool true)).congr fun j _ => mkB_succ HX.out j
          have HM5 := Lib.hid hM5
          have B5 : Below w.heap.size w (wr.setCell ⟨s, x, none⟩ (.bool true)) := B.setCell (p := ⟨s, x, none⟩) (by show w.heap.size ≤ s; omega) _
          have Q5 : Sq (wr.setCell ⟨s, x, none⟩ (.bool true)) w.heap.size X Y (.slice (some ⟨g, 0, none⟩) n n) := HQ.of_block (by simp) (Below.heap_setCell wr _ _ _ (by show w.heap.size ≠ s; omega))
          have H5 := H1.other (g := s) (o := x) (.bool true) (by omega)
          have hlv := World.ownsRow.lt HO5.out
          have HLV := Lib.hid hlv
          clear hM5 hlv lq pq qq rq c0 c1 c2 c3 cl cm fm
          obtain ⟨W5, hW5⟩ : ∃ W5 : World, W5 = wr.setCell ⟨s, x, none⟩ (.bool true) := ⟨_, rfl⟩
          have hs5 : s < W5.heap.size := by rw [hW5]; simpa using hsl
          rw [← hW5] at HM5 B5 Q5 H5 HLV hgr
          have O1 : OwnS w1 (s + 1) v' (k + 1) (upV c l (k + 1)) := by
            show World.ownsRow _ _ _ _ _ _ (upV c l k ++ fourV c (l k).toNat)
            rw [HX.out, Int.toNat_natCast]
            unfold fourV
            rw [show 4 * x = x * 4 by omega]
            exact own'
          have B1 := (al B5 _).grown hgr (al B5 _).size (fun k e => by have := (HLV.out k e).1; omega)
          have Q1 := (Q5.alloc _).of_block hgr.size (hgr.block _ (Q5.alloc _).1 (fun e => by have := (HLV.out _ e.symm).1; omega))
          have H11 := (H5.alloc _).of_block (hgr.block _ (H5.alloc _).lt (fun e => by have := (HLV.out _ e.symm).1; omega))
          have M1 := (HM5.out.alloc _).of_block (hgr.block _ (HM5.out.alloc _).lt (fun e => by have := (HLV.out _ e.symm).1; omega))
          clear hgr own' hW5 B5 Q5 H5
          go_wp2
          exact ⟨⟨k + 1, by omega, by first | go_num | simp, O1, M1, HAN.out, B1, Q1, H11⟩, by simp [intOf]; omega⟩
      obtain rfl : m = k := by omega
      have HA := HAP
      have hki : ¬ ((m : Int) < (m : Int)) := by omega
      clear HAP hlt hk M
      have hlo := World.ownsRow.lt HO.out
      obtain ⟨lq, pq, qq, rq⟩ := id HQ
      obtain ⟨S, hS⟩ : ∃ S, S = wr.heap.size := ⟨_, rfl⟩
      have hZ : S ≤ wr.heap.size := by omega
      have HLO : Hid (∀ k, v1.ownBlock = some k → s + 1 ≤ k ∧ k < S) := Lib.hid (by rw [hS]; exact hlo)
      have hSs : s + 1 ≤ S := by omega
      have M := HM.out
      have O1 := HO.out
      clear hlo hS HM HO
      go_wp2_with fail
      clear lq pq qq rq hsl
      go_loopw [11, 14, 15, 56] (fun t11 t14 t15 t56 wr => ∃ k : Nat, k ≤ n ∧ t56 = .int .i64 k ∧ S ≤ wr.heap.size ∧ OwnS wr (s + 1) v1 m (upV c l m) ∧ wr.rowIs s 135 60 (mkB m l) ∧ OwnS wr S t11 (leftK m l k) (leftV c m l k) ∧ Below w.heap.size w wr ∧ Sq wr w.heap.size X Y (.slice (some ⟨g, 0, none⟩) n n) ∧ Bx wr (w.heap.size + 1) #[.int .i8 0, .int .i8 0, .slice none 0 0] 34) (fun t11 t14 t15 t56 wr => n - (intOf t56).toNat)
      case atStart => exact ⟨0, by omega, rfl, hZ, O1, M, World.ownsRow_nil _ _ _ _, B, HQ, H1⟩
      case round =>
        clear B HQ H1 O1 hZ M
        obtain ⟨k, hk, rfl, hZ, O1, M, O, B, HQ, H1⟩ := hrel
        obtain ⟨v, rfl⟩ : ∃ v : Value, v = u11 := ⟨_, rfl⟩
        have hsz2 : w.heap.size + 1 < wr.heap.size := H1.lt
        have HO := Lib.hid O
        have HO1 := Lib.hid O1
        have HM := Lib.hid M
        clear O O1
        by_cases hlt : k < n
        · have hki : (k : Int) < (n : Int) := by omega
          have hk0 : (0 : Int) ≤ (k : Int) := by omega
          have hk60 : (k : Int) < 60 := by omega
          have cm := M.cell (i := k) (by omega)
          clear M
          have R := HROW.out.of_block (B.block _ hgl)
          have c0 := R.cell (i := 4 * k) (by omega)
          have c1 := R.cell (i := 4 * k + 1) (by omega)
          have c2 := R.cell (i := 4 * k + 2) (by omega)
          have c3 := R.cell (i := 4 * k + 3) (by omega)
          rw [show 4 * k = k * 4 by omega] at c0
          rw [show 4 * k + 1 = k * 4 + 1 by omega] at c1
          rw [show 4 * k + 2 = k * 4 + 2 by omega] at c2
          rw [show 4 * k + 3 = k * 4 + 3 by omega] at c3
          have hsl : s < wr.heap.size := by omega
          clear R
          by_cases h : InL m l (k : Int)
          · have HE := Lib.hid (left_in (c := c) h)
            rw [mkB_yes h] at cm
            clear h
            go_wp2_with fail
            refine ⟨⟨k + 1, by omega, by first | go_num | simp, by simp; omega, World.ownsRow.alloc HO1.out _, HM.out.alloc _, ?_, al B _, HQ.alloc _, H1.alloc _⟩, by simp [intOf]; omega⟩
            rw [HE.out.1, HE.out.2]
            exact World.ownsRow.alloc HO.out _
          · have HE := Lib.hid (left_out (c := c) h)
            have hkn := leftK_le m l k
            rw [mkB_no h] at cm
            have NC := new_cells (wr.alloc (.cells #[.int .i8 (c (k * 4)), .int .i8 (c (k * 4 + 1)), .int .i8 (c (k * 4 + 2)), .int .i8 (c (k * 4 + 3))] 55)) #[.int .i8 (c (k * 4)), .int .i8 (c (k * 4 + 1)), .int .i8 (c (k * 4 + 2)), .int .i8 (c (k * 4 + 3))] 55
            rw [World.size_alloc] at NC
            have HNC := Lib.hid NC
            clear h NC
            go_wp2_with (at_builtin; refine wpList_append_own _ rfl _ _ 32 rfl S 55 i0 (.agg #[.int .i8 0, .int .i8 0, .int .i8 0, .int .i8 0]) 4 4 Try.underlying32 HI.out hz0 hz1 hz2 rfl (by decide) v (leftK m l k) (leftV c m l k) rfl (World.ownsRow.alloc (w := (wr.alloc (.cells #[.int .i8 (c (k * 4)), .int .i8 (c (k * 4 + 1)), .int .i8 (c (k * 4 + 2)), .int .i8 (c (k * 4 + 3))] 55))) (World.ownsRow.alloc (w := wr) HO.out _) _) ⟨(wr.heap.size + 1), 0, none⟩ 1 1 [.int .i8 (c (k * 4)), .int .i8 (c (k * 4 + 1)), .int .i8 (c (k * 4 + 2)), .int .i8 (c (k * 4 + 3))] rfl rfl HNC.out (by intro u hu; simp at hu; rcases hu with rfl | rfl | rfl | rfl <;> rfl) (by unfold maxLen; omega) (by omega) (by simp; omega) ?_; intro v' w1 own' hgr _)
            have hlv := World.ownsRow.lt HO.out
            have HLV : Hid (∀ k, v.ownBlock = some k → S ≤ k ∧ k < wr.heap.size) := Lib.hid hlv
            have O2 : OwnS w1 S v' (leftK m l (k + 1)) (leftV c m l (k + 1)) := by
              rw [HE.out.1, HE.out.2]
              unfold fourV
              rw [show 4 * k = k * 4 by omega]
              exact own'
            have O3 : OwnS w1 (s + 1) v1 m (upV c l m) := World.ownsRow.kept (World.ownsRow.alloc (World.ownsRow.alloc HO1.out _) _) hgr (apartM HLO.out HLV.out)
            have B1 := (al (al B _) _).grown hgr (al (al B _) _).size (fun k e => by have := (HLV.out k e).1; omega)
            have Q1 := ((HQ.alloc _).alloc _).of_block hgr.size (hgr.block _ ((HQ.alloc _).alloc _).1 (fun e => by have := (HLV.out _ e.symm).1; omega))
            have H11 := ((H1.alloc _).alloc _).of_block (hgr.block _ ((H1.alloc _).alloc _).lt (fun e => by have := (HLV.out _ e.symm).1; omega))
            have M1 := ((HM.out.alloc _).alloc _).of_block (hgr.block _ ((HM.out.alloc _).alloc _).lt (fun e => by have := (HLV.out _ e.symm).1; omega))
            have hZ1 : S ≤ w1.heap.size := by have := hgr.size; simp at this; omega
            clear hgr own' hlv c0 c1 c2 c3 cm
            go_wp2
            exact ⟨⟨k + 1, by omega, by first | go_num | simp, hZ1, O3, M1, O2, B1, Q1, H11⟩, by simp [intOf]; omega⟩
        · obtain rfl : n = k := by omega
          have hki : ¬ ((n : Int) < (n : Int)) := by omega
          obtain ⟨A', cap', hvv⟩ := row_shape HO.out
          subst hvv
          obtain ⟨lq, pq, qq, rq⟩ := id HQ
          obtain ⟨p1, q1, r1⟩ := H1.cells3
          have f10 := H1.frozen 0
          have f11 := H1.frozen 1
          have f12 := H1.frozen 2
          have hlo : ∀ k, (Value.slice A' (leftK m l n) cap').ownBlock = some k → S ≤ k ∧ k < wr.heap.size := fun k e => World.ownsRow.lt HO.out k e
          have hap : (Value.slice A' (leftK m l n) cap').ownBlock = none ∨ (Value.slice A' (leftK m l n) cap').ownBlock ≠ v1.ownBlock := apartW HLO.out hlo
          have HAV := Lib.hid hap
          clear hlo hap M
          go_wp2_with fail
          have F1 := H1.set3 (.int .i8 X) (.int .i8 Y) (Value.slice A' (leftK m l n) cap')
          have B3 := below_set3 (g := w.heap.size + 1) (v0 := .int .i8 X) (v1 := .int .i8 Y) (v2 := (Value.slice A' (leftK m l n) cap')) B (by omega)
          obtain ⟨x1, y1, z1⟩ := F1.cells3
          refine bodyPost_ret (v := .tuple #[.agg #[.int .i8 X, .int .i8 Y, (Value.slice A' (leftK m l n) cap')], v1, .int .i64 0]) ?_ ?_ ?_
          · simp [results, Try.results40, go_sem, x1, y1, z1]
          · rfl
          exact .inr (.inr (.inr ⟨HV.out, HIN.out, HA.out, B3, _, v1, rfl, World.ownsRow.mono (OwnS.set (OwnS.set (OwnS.set HO.out (by omega)) (by omega)) (by omega)) (by omega), World.ownsRow.mono (OwnS.set (OwnS.set (OwnS.set HO1.out (by omega)) (by omega)) (by omega)) (by omega), HAV.out⟩))
end liftAll
end Go.Proofs.Ytkggimalkjjnoaa
