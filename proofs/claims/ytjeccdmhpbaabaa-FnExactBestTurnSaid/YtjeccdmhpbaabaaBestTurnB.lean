/-
  Both sides of BestTurn answer the same. Conditions stand at each.
-/
import Derived.Test.YtjeccdmhpbaabaaRows
import Derived.Laws.EntriesVeiled
import Derived.Test.YtjeccdmhpbaabaaCommonJointsB
import Derived.Test.YtjeccdmhpbaabaaBestI
namespace Go.Proofs.Ytjeccdmhpbaabaa
open Go Go.ChangeShapes Go.WideShapes Go.ChangeAt Go.RowKit
set_option linter.unusedVariables false
set_option linter.unusedSimpArgs false
set_option maxRecDepth 100000
set_option maxHeartbeats 2000000
namespace bestTurn
theorem jp_congr (joint : Int) {c d : Nat → Int} : ∀ m, (∀ j, j < m → c j = d j) → jp joint c m = jp joint d m
  | 0, _ => rfl
  | m + 1, h => by rw [jp, jp, jp_congr joint m (fun j hj => h j (by omega)), h m (by omega)]
theorem jtL_congr (joint : Int) {c d : Nat → Int} (m : Nat) (h : ∀ j, j < m → c j = d j) : jtL joint c m = jtL joint d m := by
  unfold jtL
  refine List.map_congr_left fun j hj => ?_
  rw [List.mem_range] at hj
  unfold jt
  rw [jp_congr joint j (fun i hi => h i (by omega)), h j hj]
/-- how many joints a row has in common with another one that is turned, as the model counts them. -/
def comM (n m : Nat) (c d : Nat → Int) (joint : Int) (i : Nat) : Int := ((comL (jtL joint c (n - 1)) (jtL joint (turnC m i d) (m - 1))).length : Nat)
theorem com_same (n m : Nat) (c d : Nat → Int) (k : Int) (h1 : RowOk n c) (h2 : RowOk m d) (h3 : JointOk k) : amS (comN n m c d k) m = amS (comM n m c d k) m :=
  amS_congr m fun i hi => by
    unfold comN comM
    rw [commonJoints.com_eq n m c (turnC m i d) k h1 (turn_rowOk h2 hi) h3]
def upL (n : Nat) : List Int := (List.range n).map fun (j : Nat) => (j : Int)
theorem upL_length (n : Nat) : (upL n).length = n := by simp [upL]
theorem upL_succ (n : Nat) : upL (n + 1) = upL n ++ [(n : Int)] := by unfold upL; rw [List.range_succ, List.map_append]; rfl
theorem upL_get {n j : Nat} (h : j < n) : (upL n).getD j 0 = (j : Int) := by
  unfold upL
  rw [List.getD_eq_getElem?_getD, List.getElem?_map, List.getElem?_range h]
  rfl
def Post (ok : Prop) (p : Int × Int) (w : World) (e : Ending) (w' : World) : Prop :=
  Below w.heap.size w w' ∧ ((ok ∧ e = .returned (.tuple #[.int .i64 p.1, .int .i64 p.2, .int .i64 0])) ∨ (¬ ok ∧ e = .returned (.tuple #[.int .i64 0, .int .i64 0, .int .i64 2])))

theorem spec_any (A B : Option Addr) (n m : Nat) (c d : Nat → Int) (k : Int) (w : World) (hn : n ≤ 1048576) (hm : m ≤ 1048576) (hr : RdK .i64 w w.heap.size A n c) (hs : RdK .i64 w w.heap.size B m d) :
    Calls Try.prog 58 #[.slice A n n, .slice B m m, .int .i64 k] w (Post (RowOk n c ∧ RowOk m d ∧ JointOk k) (amS (comM n m c d k) m) w) := by
  have HR := Lib.hid hr
  have HS := Lib.hid hs
  clear hr hs
  go_enter Try.func58, Try.ntmps58
  have B1 : Below w.heap.size w w := Below.refl _ _
  go_wp2_with fail
  refine (l03Row_any A n n c _ hn HR.out).mono ?_
  rintro e w1 ⟨hb, ⟨h, rfl⟩ | ⟨h, rfl⟩⟩
  case inr =>
    have H := Lib.hid h
    replace B1 := nxt B1 hb
    clear h hb
    go_wp2_with fail
    go_ret3
    exact ⟨B1, .inr ⟨fun h => H.out h.1, rfl⟩⟩
  have H := Lib.hid h
  replace B1 := nxt B1 hb
  clear h hb
  go_wp2_with fail
  refine (l03Row_any B m m d _ hm ((HS.out.below B1).mono B1.size)).mono ?_
  rintro e w2 ⟨hb, ⟨h, rfl⟩ | ⟨h, rfl⟩⟩
  case inr =>
    have H2 := Lib.hid h
    replace B1 := nxt B1 hb
    clear h hb
    go_wp2_with fail
    go_ret3
    exact ⟨B1, .inr ⟨fun h => H2.out h.2.1, rfl⟩⟩
  have H2 := Lib.hid h
  replace B1 := nxt B1 hb
  clear h hb
  obtain ⟨wo, rfl⟩ : ∃ wo : World, wo = w2 := ⟨_, rfl⟩
  go_wp2_with fail
  refine (l03Joint_any k _).mono ?_
  rintro e w3 ⟨hw, ⟨h, rfl⟩ | ⟨h, rfl⟩⟩
  case inr =>
    have H3 := Lib.hid h
    replace hw := hw.symm
    subst hw
    clear h
    go_wp2_with fail
    go_ret3
    exact ⟨B1, .inr ⟨fun h => H3.out h.2.2, rfl⟩⟩
  have H3 := Lib.hid h
  replace hw := hw.symm
  subst hw
  clear h
  have n1 := H.out.1.1
  have n60 := H.out.1.2
  have m1 := H2.out.1.1
  have m60 := H2.out.1.2
  go_wp2_with fail
  refine (l03Common_any A B n m n m c d k _ n1 n60 m1 m60 ((HR.out.below B1).mono B1.size) ((HS.out.below B1).mono B1.size)).mono ?_
  rintro e w4 ⟨hb, v, rfl, O⟩
  replace B1 := nxt B1 hb
  clear hb
  obtain ⟨A', cap, rfl⟩ := O.shape
  have e0 : jtL k (turnC m 0 d) (m - 1) = jtL k d (m - 1) := jtL_congr k (m - 1) fun j hj => by unfold turnC; rw [if_pos (by omega), Nat.zero_add]
  have ec : comM n m c d k 0 = ((comL (jtL k c (n - 1)) (jtL k d (m - 1))).length : Nat) := by unfold comM; rw [e0]
  have EC := Lib.hid ec
  clear e0 O ec
  go_wp2_with fail
  go_loopw [9, 10, 11, 12] (fun t9 t10 t11 t12 wr => ∃ i : Nat, (1 ≤ i ∧ i ≤ m) ∧ t11 = .int .i64 i ∧ t9 = .int .i64 (amS (comM n m c d k) i).1 ∧ t10 = .int .i64 (amS (comM n m c d k) i).2 ∧ Below w.heap.size w wr) (fun t9 t10 t11 t12 wr => m - (intOf t11).toNat)
  case atStart => exact ⟨1, ⟨by omega, m1⟩, rfl, rfl, by rw [amS_yes (.inl rfl), EC.out], B1⟩
  case round =>
    clear B1
    obtain ⟨i, ⟨hi1, hi2⟩, rfl, rfl, rfl, B⟩ := hrel
    obtain ⟨wo, rfl⟩ : ∃ wo : World, wo = wr := ⟨_, rfl⟩
    have HB := Lib.hid B
    clear B
    by_cases hlt : i < m
    · have hlti : (i : Int) < (m : Int) := by omega
      obtain ⟨l, hl⟩ : ∃ l, l = (amS (comM n m c d k) i).2 := ⟨_, rfl⟩
      obtain ⟨bb, hbb⟩ : ∃ bb, bb = (amS (comM n m c d k) i).1 := ⟨_, rfl⟩
      have hyes := amS_yes (f := comM n m c d k) (k := i)
      have hno := amS_no (f := comM n m c d k) (k := i)
      have hpair : amS (comM n m c d k) i = (bb, l) := by rw [hbb, hl]
      rw [← hl] at hyes hno
      rw [hpair] at hno
      rw [← hl, ← hbb]
      have HY := Lib.hid hyes
      have HN := Lib.hid hno
      clear hl hbb hyes hno hpair
      go_wp2_with fail
      refine (l03Turn_any B m i d _ m1 m60 hlt ((HS.out.below HB.out).mono HB.out.size)).mono ?_
      rintro e w5 ⟨hb, v, rfl, O⟩
      have B5 := nxt HB.out hb
      clear hb
      obtain ⟨A2, cap2, rfl⟩ := O.shape
      have hlen : (rowL (m - i) (fun j => d (i + j)) ++ rowL i d).length = m := by rw [List.length_append, rowL_length, rowL_length]; omega
      have R5 := (O.rd.2).congr (d := turnC m i d) (fun j hj => turn_get hlt (by rw [hlen] at hj; exact hj))
      rw [hlen] at R5 ⊢
      have HR5 := Lib.hid R5
      clear O hlen R5
      go_wp2_with fail
      refine (l03Common_any A A2 n m n cap2 c (turnC m i d) k _ n1 n60 m1 m60 ((HR.out.below B5).mono B5.size) HR5.out).mono ?_
      rintro e w6 ⟨hb, v6, rfl, O6⟩
      have B6 := nxt B5 hb
      clear hb B5
      obtain ⟨A6, cap6, rfl⟩ := O6.shape
      have ex : comM n m c d k i = ((comL (jtL k c (n - 1)) (jtL k (turnC m i d) (m - 1))).length : Nat) := rfl
      obtain ⟨x, hx⟩ : ∃ x : Nat, x = (comL (jtL k c (n - 1)) (jtL k (turnC m i d) (m - 1))).length := ⟨_, rfl⟩
      rw [← hx] at ex ⊢
      have HX := Lib.hid ex
      clear O6 hx ex
      by_cases hlt2 : (x : Int) < l
      · have D : decide ((x : Int) < l) = true := by simpa using hlt2
        go_wp2_with fail
        have hh := HY.out (.inr (by rw [HX.out]; exact hlt2))
        exact ⟨⟨i + 1, ⟨by omega, by omega⟩, by first | go_num | simp, by rw [hh], by rw [hh, HX.out], B6⟩, by simp [intOf]; omega⟩
      · have D : decide ((x : Int) < l) = false := by simpa using hlt2
        go_wp2_with fail
        have hh := HN.out (by omega) (by rw [HX.out]; exact hlt2)
        exact ⟨⟨i + 1, ⟨by omega, by omega⟩, by first | go_num | simp, by rw [hh], by rw [hh], B6⟩, by simp [intOf]; omega⟩
    · obtain rfl : i = m := by omega
      go_wp2_with fail
      go_ret3
      exact ⟨HB.out, .inl ⟨⟨H.out, H2.out, H3.out⟩, rfl⟩⟩

theorem impl_any (A B : Option Addr) (n m : Nat) (c d : Nat → Int) (k : Int) (w : World) (hn : n ≤ 1048576) (hm : m ≤ 1048576) (hr : RdK .i64 w w.heap.size A n c) (hs : RdK .i64 w w.heap.size B m d) :
    Calls Try.prog 59 #[.slice A n n, .slice B m m, .int .i64 k] w (Post (RowOk n c ∧ RowOk m d ∧ JointOk k) (amS (comN n m c d k) m) w) := by
  have hmf : ∀ (fn : Fn) (first cap : Array Value) (w : World), (Instr.makeFunc fn first cap).run Try.prog w = .ok (.func fn first cap) w := fun _ _ _ _ => rfl
  obtain ⟨i0, hi, hz0, hz1, hz2⟩ := info_parts infoI64
  have HR := Lib.hid hr
  have HS := Lib.hid hs
  clear hr hs
  go_enter Try.func59, Try.ntmps59
  go_wp2_with fail
  obtain ⟨W0, hW0⟩ : ∃ W0 : World, W0 = (w.alloc (.cells #[.slice A n n] 29)).alloc (.cells #[.int .i64 k] 2) := ⟨_, rfl⟩
  have B1 : Below w.heap.size w W0 := by rw [hW0]; exact al (al (Below.refl _ _) _) _
  have z0 : W0.heap.size = w.heap.size + 2 := by rw [hW0]; simp
  have hA0 : W0.heap[w.heap.size]? = some (.cells #[.slice A n n] 29 (0, 0)) := by rw [hW0]; exact (Below.heap_alloc _ _ _ (by simp)).trans (heap_alloc_new w _)
  have hJ0 : W0.heap[w.heap.size + 1]? = some (.cells #[.int .i64 k] 2 (0, 0)) := by
    rw [hW0]; have := heap_alloc_new (w.alloc (.cells #[.slice A n n] 29)) (.cells #[.int .i64 k] 2); rwa [World.size_alloc] at this
  rw [← hW0]
  clear hW0
  refine (isRow_any A n n c _ hn ((HR.out.below B1).mono B1.size)).mono ?_
  rintro e w1 ⟨hb, ⟨h, rfl⟩ | ⟨h, rfl⟩⟩
  case inr =>
    have H := Lib.hid h
    replace B1 := nxt B1 hb
    clear h hb
    go_wp2_with fail
    go_ret3
    exact ⟨B1, .inr ⟨fun h => H.out h.1, rfl⟩⟩
  have H := Lib.hid h
  replace B1 := nxt B1 hb
  have hA1 := (hb.block w.heap.size (by omega)).trans hA0
  have hJ1 := (hb.block (w.heap.size + 1) (by omega)).trans hJ0
  have z1 := hb.size
  have cA := cell_of_row w1 w.heap.size 0 _ _ _ hA1
  have cJ := cell_of_row w1 (w.heap.size + 1) 0 _ _ _ hJ1
  simp at cA cJ
  clear h hb hA0 hJ0
  go_wp2_with fail
  refine (isRow_any B m m d _ hm ((HS.out.below B1).mono B1.size)).mono ?_
  rintro e w2 ⟨hb, ⟨h, rfl⟩ | ⟨h, rfl⟩⟩
  case inr =>
    have H2 := Lib.hid h
    replace B1 := nxt B1 hb
    clear h hb cA cJ
    go_wp2_with fail
    go_ret3
    exact ⟨B1, .inr ⟨fun h => H2.out h.2.1, rfl⟩⟩
  have H2 := Lib.hid h
  replace B1 := nxt B1 hb
  clear cA cJ
  have hA2 := (hb.block w.heap.size (by omega)).trans hA1
  have hJ2 := (hb.block (w.heap.size + 1) (by omega)).trans hJ1
  have z2 := hb.size
  have cA := cell_of_row w2 w.heap.size 0 _ _ _ hA2
  have cJ := cell_of_row w2 (w.heap.size + 1) 0 _ _ _ hJ2
  simp at cA cJ
  clear h hb hA1 hJ1
  obtain ⟨wo, rfl⟩ : ∃ wo : World, wo = w2 := ⟨_, rfl⟩
  go_wp2_with fail
  refine (isJoint_any k _).mono ?_
  rintro e w3 ⟨hw, ⟨h, rfl⟩ | ⟨h, rfl⟩⟩
  case inr =>
    have H3 := Lib.hid h
    replace hw := hw.symm
    subst hw
    clear h
    go_wp2_with fail
    go_ret3
    exact ⟨B1, .inr ⟨fun h => H3.out h.2.2, rfl⟩⟩
  have H3 := Lib.hid h
  replace hw := hw.symm
  subst hw
  clear h
  have n1 := H.out.1.1
  have n60 := H.out.1.2
  have m1 := H2.out.1.1
  have m60 := H2.out.1.2
  go_wp2_with fail
  refine (turnedBy_any B m m d _ m1 m60 ((HS.out.below B1).mono B1.size)).mono ?_
  rintro e w4 ⟨hb, b1, b2, v, rfl, hl, c1, c2, O⟩
  have hA4 := (hb.block w.heap.size (by omega)).trans hA2
  have hJ4 := (hb.block (w.heap.size + 1) (by omega)).trans hJ2
  have z4 := hb.size
  replace B1 := nxt B1 hb
  have hlen : (rowL m d ++ rowL m d).length = m + m := by simp [rowL_length]
  obtain ⟨g, cap', rfl, hgb, hcap, hmx⟩ : ∃ g cap', v = .slice (some ⟨g, 0, none⟩) (m + m) cap' ∧ wo.heap.size ≤ g ∧ m + m ≤ cap' ∧ cap' ≤ maxLen := by
    rcases O.2 with ⟨_, h0⟩ | ⟨g, cap', cur, rfl, hb, hg, hc, hm, _⟩
    · omega
    · exact ⟨g, cap', by rw [hlen], hb, by omega, hm⟩
  have hrow : g < w4.heap.size ∧ ∀ j, j < m + m → w4.cell? ⟨g, j, none⟩ = some (.int .i64 ((rowL m d ++ rowL m d).getD j 0)) := by
    obtain ⟨A2, g2, cap2, he, hh, ho⟩ := O.has
    injection he with e1 e2 e3
    have h1 := hh (by omega)
    rw [← e1] at h1
    obtain ⟨h1, h2, h3⟩ := h1
    injection h1 with h1
    injection h1 with h1
    subst h1
    exact ⟨h3, fun j hj => by have := (ho j (by omega)).1; rwa [Nat.zero_add] at this⟩
  have HROW := Lib.hid hrow
  have HL := Lib.hid hl
  have HC1 := Lib.hid c1
  have HC2 := Lib.hid c2
  clear hb hl c1 c2 O hlen hrow hA2 hJ2 cA cJ
  go_wp2_with fail
  obtain ⟨V5, hV5⟩ : ∃ V5 : World, V5 = w4.alloc (.cells #[.func (.func 162) #[] #[.pointer (some ⟨b1, 0, none⟩), .pointer (some ⟨b2, 0, none⟩)]] 102) := ⟨_, rfl⟩
  have hBB : BB V5.heap.size w.heap.size w4.heap.size (w.heap.size + 1) b1 b2 g cap' A B n m n m c d k V5 := by
    have hz : V5.heap.size = w4.heap.size + 1 := by rw [hV5]; simp
    have hbl : Below w4.heap.size w4 V5 := by rw [hV5]; exact al (Below.refl _ _) _
    have hl := HL.out
    refine ⟨⟨by omega, ?_⟩, ⟨by omega, ?_⟩, ⟨by omega, ?_⟩, ⟨by omega, (hbl.cell (p := ⟨b1, 0, none⟩) hl.2.1).trans HC1.out⟩, ⟨by omega, (hbl.cell (p := ⟨b2, 0, none⟩) hl.2.2.2).trans HC2.out⟩, ?_, by have := HROW.out.1; omega, fun j hj => (hbl.cell (p := ⟨g, j, none⟩) HROW.out.1).trans (HROW.out.2 j hj)⟩
    · rw [cell_of_row _ _ 0 _ _ _ ((hbl.block _ (by omega)).trans hA4)]; rfl
    · rw [hV5, cell_of_row _ _ 0 _ _ _ (heap_alloc_new w4 _)]; rfl
    · rw [cell_of_row _ _ 0 _ _ _ ((hbl.block _ (by omega)).trans hJ4)]; rfl
    · exact ((HR.out.below (nxt B1 hbl))).mono (by omega)
  have B5 : Below w.heap.size w V5 := by rw [hV5]; exact al B1 _
  rw [← hV5]
  have HBB := Lib.hid hBB
  have z5 := B5.size
  clear hV5 hBB hA4 hJ4 HROW HL HC1 HC2
  go_loopw [10, 11, 31] (fun t10 t11 t31 wr => ∃ i : Nat, i ≤ m ∧ t31 = .int .i64 i ∧ OwnI wr V5.heap.size t10 (upL i) ∧ Below V5.heap.size V5 wr) (fun t10 t11 t31 wr => m - (intOf t31).toNat)
  case atStart => exact ⟨0, by omega, rfl, OwnI.nil _ _, Below.refl _ _⟩
  case round =>
    obtain ⟨i, hi1, rfl, O, B⟩ := hrel
    obtain ⟨wo, rfl⟩ : ∃ wo : World, wo = wr := ⟨_, rfl⟩
    obtain ⟨v0, rfl⟩ : ∃ v0 : Value, v0 = u10 := ⟨_, rfl⟩
    have HO := Lib.hid O
    have HB := Lib.hid B
    have HES := Lib.hid (upL_succ i)
    clear O B
    by_cases hlt : i < m
    · have hlti : (i : Int) < (m : Int) := by omega
      go_wp2_with (at_builtin; refine wpList_append_own _ rfl _ _ 29 rfl V5.heap.size 2 i0 (.int .i64 0) 1 8 Try.underlying29 hi hz0 hz1 hz2 rfl (by decide) _ _ _ rfl (World.ownsRow.alloc HO.out _) ⟨wo.heap.size, 0, none⟩ 1 1 [.int .i64 (i : Int)] rfl rfl (ncells wo #[.int .i64 (i : Int)] 2) one64 (by have := HB.out.size; have := upL_length i; unfold maxLen; omega) (by have := HB.out.size; have := upL_length i; omega) (by have := HB.out.size; have := upL_length i; simp; omega) ?_; intro v' w1 own' hgr _)
      have B6 : Below V5.heap.size V5 w1 := (al HB.out _).grown hgr (al HB.out _).size (fun k e => (HO.out.lt k e).1)
      have O6 : OwnI w1 V5.heap.size v' (upL (i + 1)) := by
        rw [HES.out]
        exact OwnI.snoc own'
      clear own' hgr
      exact ⟨⟨i + 1, by omega, by first | go_num | simp, O6, B6⟩, by simp [intOf]; omega⟩
    · obtain rfl : i = m := by omega
      have hlti : ¬ ((i : Int) < (i : Int)) := by omega
      obtain ⟨A7, cap7, rfl⟩ := HO.out.shape
      have R7 := (HO.out.rd.2).congr (d := fun j => (j : Int)) (fun j hj => upL_get (by rw [upL_length] at hj; exact hj))
      rw [upL_length] at R7 ⊢
      have HR7 := Lib.hid R7
      have hF : ∀ W, Below wo.heap.size wo W → ∀ j : Nat, j < i → Calls Try.prog 122 (#[.int .i64 (j : Int)] ++ #[.pointer (some ⟨w.heap.size, 0, none⟩), .pointer (some ⟨w4.heap.size, 0, none⟩), .pointer (some ⟨w.heap.size + 1, 0, none⟩)]) W fun e w' => e = .returned (.int .i64 (comN n i c d k j)) ∧ Below W.heap.size W w' := by
        intro W hW j hj
        have hz := HB.out.size
        have hz2 := hW.size
        exact bestBy_any V5.heap.size w.heap.size w4.heap.size (w.heap.size + 1) b1 b2 g cap' A B n i n i c d k j W n1 n60 (Nat.le_refl _) m1 m60 hcap hmx hj (by omega) (HBB.out.below (HB.out.trans (hW.mono hz)))
      have HF := Lib.hid hF
      clear R7 hF HO
      go_wp2_with fail
      refine (leastOf_any 122 #[.pointer (some ⟨w.heap.size, 0, none⟩), .pointer (some ⟨w4.heap.size, 0, none⟩), .pointer (some ⟨w.heap.size + 1, 0, none⟩)] A7 i cap7 (comN n i c d k) _ (by omega) HR7.out (enters_of Try.func122 (by kernel_rfl) rfl) HF.out).mono ?_
      rintro e w8 ⟨rfl, hb⟩
      have B8 := nxt (B5.trans (HB.out.mono B5.size)) hb
      clear hb
      go_wp2_with fail
      go_ret3
      exact ⟨B8, .inl ⟨⟨H.out, H2.out, H3.out⟩, rfl⟩⟩

theorem both (n : Nat) (c : Nat → Int) (m : Nat) (d : Nat → Int) (k : Int) (hc : ∀ j, (Lit.int .i64 (c j)).wf = true) (hn : n ≤ 1048576) (hd : ∀ j, (Lit.int .i64 (d j)).wf = true) (hm : m ≤ 1048576) (bk : (Lit.int .i64 k).wf = true) :
    ∃ (z1 z2 z3 : Int),
      (∀ (W : World) (G0 G1 : Nat), Ar W G0 n c → Ar W G1 m d → Calls Try.prog 58 #[.slice (some ⟨G0, 0, none⟩) n n, .slice (some ⟨G1, 0, none⟩) m m, .int .i64 k] W fun e w' => e = .returned (.tuple #[.int .i64 z1, .int .i64 z2, .int .i64 z3]) ∧ Below W.heap.size W w') ∧
      (∀ (W : World) (G0 G1 : Nat), Ar W G0 n c → Ar W G1 m d → Calls Try.prog 59 #[.slice (some ⟨G0, 0, none⟩) n n, .slice (some ⟨G1, 0, none⟩) m m, .int .i64 k] W fun e w' => e = .returned (.tuple #[.int .i64 z1, .int .i64 z2, .int .i64 z3]) ∧ Below W.heap.size W w') := by
  by_cases hg : RowOk n c ∧ RowOk m d ∧ JointOk k
  · have hs := com_same n m c d k hg.1 hg.2.1 hg.2.2
    refine ⟨(amS (comM n m c d k) m).1, (amS (comM n m c d k) m).2, 0, fun W G H R S => (spec_any _ _ n m c d k W hn hm R.rd S.rd).mono ?_, fun W G H R S => (impl_any _ _ n m c d k W hn hm R.rd S.rd).mono ?_⟩
    all_goals
      rintro e w' ⟨hb, ⟨_, rfl⟩ | ⟨h', _⟩⟩
      · exact ⟨by first | rfl | rw [hs], hb⟩
      · exact absurd hg h'
  · refine ⟨0, 0, 2, fun W G H R S => (spec_any _ _ n m c d k W hn hm R.rd S.rd).mono ?_, fun W G H R S => (impl_any _ _ n m c d k W hn hm R.rd S.rd).mono ?_⟩
    all_goals
      rintro e w' ⟨hb, ⟨h', _⟩ | ⟨_, rfl⟩⟩
      · exact absurd h' hg
      · exact ⟨rfl, hb⟩
end bestTurn
end Go.Proofs.Ytjeccdmhpbaabaa
