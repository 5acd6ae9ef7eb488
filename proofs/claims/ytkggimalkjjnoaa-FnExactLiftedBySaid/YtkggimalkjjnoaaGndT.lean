/-
  Contracts of the law's helpers over grounds: copied, sized, compared, marked. Conditions stand at each.
-/
import Derived.Test.YtkggimalkjjnoaaRows
import Derived.Test.YtkggimalkjjnoaaGndC
import Derived.Test.YtkggimalkjjnoaaDrew
namespace Go.Proofs.Ytkggimalkjjnoaa
open Go Go.ChangeShapes Go.WideShapes Go.ChangeAt Go.RowKit
set_option linter.unusedVariables false
set_option linter.unusedSimpArgs false
set_option maxRecDepth 100000
set_option maxHeartbeats 2000000

/-- what a box that holds a ground gives the walk: its sizes and its slice. -/
theorem Bx.gcells {w : World} {b : Nat} {X Y : Int} {h : Nat → Int} {s : Value} {t : TypeId} (hB : Bx w b (gV X Y h s) t) :
    b < w.heap.size ∧ w.cell? ⟨b, 0, none⟩ = some (.int .i8 X) ∧ w.cell? ⟨b, 1, none⟩ = some (.int .i8 Y) ∧ w.cell? ⟨b, 83, none⟩ = some s :=
  ⟨hB.lt, (hB.cell 0).trans (gV_0 _ _ _ _), (hB.cell 1).trans (gV_1 _ _ _ _), (hB.cell 83).trans (gV_s _ _ _ _)⟩
theorem gV_part (X Y : Int) (h : Nat → Int) (s : Value) : ∀ j, j < (hV h).size → (gV X Y h s)[2 + j]? = (hV h)[j]? := fun j hj => by
  rw [hV_size] at hj
  rw [gV_h _ _ _ _ hj, hV_get _ hj]
/-- a slice's value is one cell. -/
theorem gV_one (X Y : Int) (h : Nat → Int) (A : Option Addr) (n cap : Nat) : (gV X Y h (.slice A n cap)).all (·.oneCell') = true := one_of fun i hi => by
  rw [gV_size] at hi
  by_cases i0 : i = 0
  · subst i0; exact ⟨_, gV_0 _ _ _ _, rfl⟩
  by_cases i1 : i = 1
  · subst i1; exact ⟨_, gV_1 _ _ _ _, rfl⟩
  by_cases i3 : i = 83
  · subst i3; exact ⟨_, gV_s _ _ _ _, rfl⟩
  obtain ⟨p, rfl⟩ : ∃ p, i = 2 + p := ⟨i - 2, by omega⟩
  exact ⟨_, gV_h _ _ _ _ (by omega), rfl⟩
theorem infoGv (X Y : Int) (h : Nat → Int) (s : Value) : (Try.prog.info? 98).map (·.size) = some (gV X Y h s).size := by rw [gV_size]; exact infoG
theorem infoLGv (X Y : Int) (h : Nat → Int) (s : Value) : (Try.prog.info? 95).map (·.size) = some (gV X Y h s).size := by rw [gV_size]; exact infoLG

theorem szGround_ok (X Y L : Int) (h : Nat → Int) (A : Option Addr) (n cap : Nat) (w : World) (hL0 : 0 ≤ L) (hL : L ≤ 1048576) (hn : (n : Int) ≤ L) :
    Calls Try.prog 80 #[.agg (gV X Y h (.slice A n cap)), .int .i64 L] w fun e w' => e = .returned (.int .i64 (L - n)) ∧ Below w.heap.size w w' := by
  have h1 : 0 ≤ L - (n : Int) := by omega
  go_enter Try.func80, Try.ntmps80
  go_wp2_with (refine (szCellS_ok A n cap L _ hL0 hL hn).mono ?_; rintro e w1 ⟨rfl, rfl⟩)
  go_ret
  exact ⟨rfl, al (Below.refl _ _) _⟩
theorem szGround_big (X Y L : Int) (h : Nat → Int) (A : Option Addr) (n cap : Nat) (w : World) (hL0 : 0 ≤ L) (hL : L ≤ 1048576) (hn : L < (n : Int)) (hm : n ≤ 9223372036854775807) :
    Calls Try.prog 80 #[.agg (gV X Y h (.slice A n cap)), .int .i64 L] w fun e w' => e = .returned (.int .i64 (-1)) ∧ Below w.heap.size w w' := by
  go_enter Try.func80, Try.ntmps80
  go_wp2_with (refine (szCellS_big A n cap L _ hL0 hL hn hm).mono ?_; rintro e w1 ⟨rfl, rfl⟩)
  go_ret
  exact ⟨rfl, al (Below.refl _ _) _⟩

theorem zeroG : Try.zeroCells98 = gV 0 0 (fun _ => 0) (.slice none 0 0) := by
  have hall : (List.range 81).all (fun p => isZero16 Try.zeroCells98[2 + p]?) = true := by kernel_rfl
  exact gV_of _ _ _ _ (by kernel_rfl) (by kernel_rfl) (by kernel_rfl) (fun p hp => of_isZero16 (List.all_eq_true.1 hall p (List.mem_range.2 hp))) (by kernel_rfl)
theorem zsize {X Y : Int} {h : Nat → Int} {s : Value} : Try.zeroCells98.size = (gV X Y h s).size := by rw [gV_size]; kernel_rfl
theorem zsizeH {h : Nat → Int} : Try.zeroCells93.size = (hV h).size := by rw [hV_size]; kernel_rfl
theorem SliceOf.rdC {w : World} {base : Nat} {v : Value} {n : Nat} {f : Nat → Int} {A : Option Addr} {g cap : Nat} (h : SliceOf .i8 2 w base v n f A g cap) : RdK .i8 w w.heap.size A (2 * n) f :=
  h.2.2.rd fun h0 => ⟨(h.2.1 (by omega)).1, (h.2.1 (by omega)).2.2⟩
theorem Ac.drew {w : World} {g n : Nat} {c : Nat → Int} (h : Ac w g n c) : Ac w.drew g n c := h
theorem gV_store (X Y : Int) (h h' : Nat → Int) (s : Value) : (∀ j, j < (hV h').size → (gV X Y h' s)[2 + j]? = (hV h')[j]?) ∧
    (∀ j, j < (gV X Y h s).size → (j < 2 ∨ 2 + (hV h').size ≤ j) → (gV X Y h' s)[j]? = (gV X Y h s)[j]?) := by
  refine ⟨gV_part X Y h' s, fun j hj ho => ?_⟩
  rw [gV_size] at hj
  rw [hV_size] at ho
  have : j = 0 ∨ j = 1 ∨ j = 83 := by omega
  rcases this with rfl | rfl | rfl
  · rw [gV_0, gV_0]
  · rw [gV_1, gV_1]
  · rw [gV_s, gV_s]

theorem toGround_any (X Y : Int) (h : Nat → Int) (A : Option Addr) (n cap N : Nat) (c : Nat → Int) (w : World) (hn : n ≤ 1048576) (hN : N ≤ w.heap.size) (hr : RdK .i8 w N A (2 * n) c) :
    Calls Try.prog 82 #[.agg (gV X Y h (.slice A n cap))] w fun e w' => ∃ g, e = .returned (.agg (gV X Y h (.slice (some ⟨g, 0, none⟩) n n))) ∧ w.heap.size ≤ g ∧ Below w.heap.size w w' ∧ Ac w' g n c := by
  have HR := Lib.hid hr
  clear hr
  go_enter Try.func82, Try.ntmps82
  go_wp2_with (refine wpList_load_part (((Bx.new w (gV X Y h (.slice A n cap)) 95).alloc _).alloc _) rfl _ _ rfl 2 rfl (hV h) (gV_part _ _ _ _) _ Try.underlying93 rfl (info99h _) ?_)
  refine (toInt16A9A9_any h _).mono ?_
  rintro e w1 ⟨rfl, hb⟩
  have X1 := (((Bx.new w (gV X Y h (.slice A n cap)) 95).alloc (.cells Try.zeroCells98 98)).alloc (.cells ((Try.zeroCells98.setIfInBounds 0 (.int .i8 X)).setIfInBounds 1 (.int .i8 Y)) 98)).below hb
  have X2 := ((Bx.newAt (w.alloc (.cells (gV X Y h (.slice A n cap)) 95)) (w.heap.size + 1) Try.zeroCells98 98 (by simp)).alloc (.cells ((Try.zeroCells98.setIfInBounds 0 (.int .i8 X)).setIfInBounds 1 (.int .i8 Y)) 98)).below hb
  have X3 := (Bx.newAt ((w.alloc (.cells (gV X Y h (.slice A n cap)) 95)).alloc (.cells Try.zeroCells98 98)) (w.heap.size + 1 + 1) ((Try.zeroCells98.setIfInBounds 0 (.int .i8 X)).setIfInBounds 1 (.int .i8 Y)) 98 (by simp)).below hb
  have B := nxt (al (al (al (Below.refl w.heap.size w) (.cells (gV X Y h (.slice A n cap)) 95)) (.cells Try.zeroCells98 98)) (.cells ((Try.zeroCells98.setIfInBounds 0 (.int .i8 X)).setIfInBounds 1 (.int .i8 Y)) 98)) hb
  clear hb
  rw [zeroG] at X2 X3
  rw [gV_set0, gV_set1] at X3
  have hs3 := X3.lt
  go_wp2_with (refine wpList_store_part X3 rfl _ _ _ rfl 2 rfl (hV h) rfl (info99h _) (iV_one _ _ _) (gV X Y h (.slice none 0 0)) (by rw [gV_size, gV_size]) (by rw [gV_size, hV_size]; omega) (gV_store X Y (fun _ => 0) h _).1 (gV_store X Y (fun _ => 0) h _).2 ?_; intro w2 X3' hg hsz; have X1' := X1.of_block (hg.block _ X1.lt (by intro e; injection e; omega)); obtain ⟨l1, p1, q1, r1⟩ := X1'.gcells)
  have X2' := X2.of_block (hg.block _ X2.lt (by intro e; injection e; omega))
  replace B := below_grown B hg B.size (by omega)
  have hww := B.size
  clear X1 X2 X3 hg l1 p1 q1 r1
  refine (toCellS_any A n cap N c _ hn (Nat.le_trans hN B.size) (HR.out.below (B.mono hN))).mono ?_
  rintro e w3 ⟨g, rfl, hg, hb, RA⟩
  replace X1' := X1'.below hb
  replace X2' := X2'.below hb
  replace X3' := X3'.below hb
  have hs2 : w.heap.size + 1 + 1 < w2.heap.size := by omega
  replace B := nxt B hb
  clear hb
  have f3 := X3'.frozen 83
  obtain ⟨l3, p3, q3, r3⟩ := X3'.gcells
  have X3'' := X3'.set 83 (.slice (some ⟨g, 0, none⟩) n n)
  rw [gV_set83] at X3''
  have X2'' := X2'.other (g := w.heap.size + 1 + 1) (o := 83) (.slice (some ⟨g, 0, none⟩) n n) (by omega)
  go_wp2_with (first
        | (refine wpList_load_box X3'' rfl _ _ rfl rfl _ Try.underlying98 rfl (infoGv _ _ _ _) ?_)
        | (refine wpList_store_box X2'' rfl _ _ _ rfl rfl rfl (infoGv _ _ _ _) (by rw [gV_size, gV_size]) (gV_one _ _ _ _ _ _) ?_))
  refine bodyPost_ret (results_cell_row Try.results82 _ _ (w.heap.size + 1) 98 (gV X Y h (.slice (some ⟨g, 0, none⟩) n n)) (0, 0) _ rfl (setRow_heap _ _ _ _ _ _ X2'') Try.underlying98 rfl (infoGv _ _ _ _)) rfl ⟨g, rfl, by omega, setRow_below (B.setCell (by simp; omega) _) (by omega) _, ?_⟩
  refine RA.kept (by simp) ?_
  rw [setRow_other _ _ _ _ (by omega)]
  exact Below.heap_setCell _ _ _ _ (by simp; omega)

theorem eqGround_yes (X Y : Int) (h : Nat → Int) (A B : Option Addr) (n m ca cb N : Nat) (c d : Nat → Int) (w : World) (hn : n ≤ 1048576) (hm : m ≤ 1048576) (hN : N ≤ w.heap.size) (hr : RdK .i8 w N A (2 * n) c) (hs : RdK .i8 w N B (2 * m) d) (heq : n = m ∧ ∀ j, j < 2 * n → c j = d j) :
    Calls Try.prog 84 #[.agg (gV X Y h (.slice A n ca)), .agg (gV X Y h (.slice B m cb))] w fun e w' => e = .returned (.bool true) ∧ Below w.heap.size w w' := by
  have HR := Lib.hid hr
  have HS := Lib.hid hs
  have HE := Lib.hid heq
  clear hr hs heq
  go_enter Try.func84, Try.ntmps84
  have X2 : ∀ o, Bx ((w.alloc o).alloc (Obj.cells (gV X Y h (.slice B m cb)) 98)) (w.heap.size + 1) (gV X Y h (.slice B m cb)) 98 := fun o => Bx.newAt _ _ _ _ (by simp)
  go_wp2_with (first
    | (refine wpList_load_part ((Bx.new w (gV X Y h (.slice A n ca)) 98).alloc _) rfl _ _ rfl 2 rfl (hV h) (gV_part _ _ _ _) _ Try.underlying93 rfl (info99h _) ?_)
    | (refine wpList_load_part (X2 _) rfl _ _ rfl 2 rfl (hV h) (gV_part _ _ _ _) _ Try.underlying93 rfl (info99h _) ?_))
  refine (eqInt16A9A9_any h _).mono ?_
  rintro e w1 ⟨rfl, hb⟩
  have X1 := ((Bx.new w (gV X Y h (.slice A n ca)) 98).alloc (Obj.cells (gV X Y h (.slice B m cb)) 98)).below hb
  replace X2 := (X2 (Obj.cells (gV X Y h (.slice A n ca)) 98)).below hb
  have B1 := nxt (al (al (Below.refl w.heap.size w) (Obj.cells (gV X Y h (.slice A n ca)) 98)) (Obj.cells (gV X Y h (.slice B m cb)) 98)) hb
  clear hb
  obtain ⟨l1, p1, q1, r1⟩ := X1.gcells
  obtain ⟨l2, p2, q2, r2⟩ := X2.gcells
  go_wp2_with fail
  refine (eqCellS_any A B n m ca cb N c d _ hn hm (Nat.le_trans hN B1.size) (HR.out.below (B1.mono hN)) (HS.out.below (B1.mono hN)) HE.out).mono ?_
  rintro e w2 ⟨rfl, hb⟩
  replace B1 := nxt B1 hb
  clear hb l1 p1 q1 r1 l2 p2 q2 r2
  go_wp2
  go_ret
  exact ⟨rfl, B1⟩

theorem markGround_any (X Y : Int) (h : Nat → Int) (A : Option Addr) (g off n cap : Nat) (c : Nat → Int) (k0 : Int) (w : World) (hk0 : 0 ≤ k0) (hk1 : k0 ≤ 1000000000) (hn : n ≤ 1048576) (hA : 0 < n → A = some ⟨g, off, none⟩) (hg : 0 < n → g < w.heap.size) (ho : OwnK .i8 w g off (2 * n) c) :
    Calls Try.prog 85 #[.agg (gV X Y h (.slice A n cap)), .int .i64 k0] w fun e w' => e = .returned (.int .i64 (k0 + 2 * n)) ∧ w.grownBy w' (rowOf n g) ∧ OwnK .i8 w' g off (2 * n) (mkK .i8 k0) := by
  have ho' : ∀ o : Obj, OwnK .i8 (w.alloc o) g off (2 * n) c := fun o => by
    rcases Nat.eq_zero_or_pos n with h0 | h0
    · subst h0; intro j hj; omega
    · exact ho.of_block (Below.heap_alloc w o g (hg h0))
  have Ho := Lib.hid ho'
  clear ho' ho
  go_enter Try.func85, Try.ntmps85
  go_wp2_with fail
  refine (markCellS_any A g off n cap c k0 _ hk0 hk1 hn hA (Ho.out _)).mono ?_
  rintro e w1 ⟨rfl, hg1, ho1⟩
  go_wp2
  go_ret
  exact ⟨rfl, (World.grownBy_alloc w _ _).trans hg1, ho1⟩

theorem heldGround_any (X Y : Int) (h : Nat → Int) (A : Option Addr) (g off n cap : Nat) (k0 : Int) (w : World) (hk0 : 0 ≤ k0) (hk1 : k0 ≤ 1000000000) (hn : n ≤ 1048576) (hA : 0 < n → A = some ⟨g, off, none⟩) (hg : 0 < n → g < w.heap.size) (ho : OwnK .i8 w g off (2 * n) (mkK .i8 k0)) :
    Calls Try.prog 86 #[.agg (gV X Y h (.slice A n cap)), .int .i64 k0] w fun e w' => e = .returned (.int .i64 (k0 + 2 * n)) ∧ Below w.heap.size w w' := by
  have ho' : ∀ o : Obj, OwnK .i8 (w.alloc o) g off (2 * n) (mkK .i8 k0) := fun o => by
    rcases Nat.eq_zero_or_pos n with h0 | h0
    · subst h0; intro j hj; omega
    · exact ho.of_block (Below.heap_alloc w o g (hg h0))
  have Ho := Lib.hid ho'
  have hkn : 0 ≤ k0 + 2 * (n : Int) := by omega
  clear ho' ho
  go_enter Try.func86, Try.ntmps86
  go_wp2_with fail
  refine (heldCellS_any A g off n cap k0 _ hk0 hk1 hn hA (Ho.out _)).mono ?_
  rintro e w1 ⟨rfl, rfl⟩
  go_wp2
  go_ret
  exact ⟨rfl, (Below.refl _ _).alloc (Nat.le_refl _) _⟩
end Go.Proofs.Ytkggimalkjjnoaa
