/-
  Patterns: what a block with a pattern holds, and the contracts of the law's helpers over patterns (toPattern, eqPattern, szPattern). Conditions stand at each.
-/
import Derived.Test.YteebkookoidheabRows
import Derived.Test.YteebkookoidheabC2
import Derived.Test.YteebkookoidheabOpenS
namespace Go.Proofs.Yteebkookoidheab
open Go Go.ChangeShapes Go.WideShapes Go.ChangeAt Go.RowKit Go.Deep Go.Joins
set_option linter.unusedVariables false
set_option linter.unusedSimpArgs false
set_option maxRecDepth 100000
set_option maxHeartbeats 2000000

/-- block b holds a pattern's four cells. -/
def Pt (w : World) (b : Nat) (x y z : Int) (v : Value) : Prop :=
  b < w.heap.size ∧ w.cell? ⟨b, 0, none⟩ = some (.int .i8 x) ∧ w.cell? ⟨b, 1, none⟩ = some (.int .i8 y) ∧ w.cell? ⟨b, 2, none⟩ = some (.int .i8 z) ∧ w.cell? ⟨b, 3, none⟩ = some v
section
variable {w w' : World} {b : Nat} {x y z : Int} {v : Value}
theorem Pt.new (w : World) (x y z : Int) (v : Value) (t : TypeId) : Pt (w.alloc (.cells #[.int .i8 x, .int .i8 y, .int .i8 z, v] t)) w.heap.size x y z v :=
  ⟨by simp, by simp [go_sem], by simp [go_sem], by simp [go_sem], by simp [go_sem]⟩
theorem Pt.of_block (h : Pt w b x y z v) (hs : w.heap.size ≤ w'.heap.size) (e : w'.heap[b]? = w.heap[b]?) : Pt w' b x y z v :=
  ⟨Nat.lt_of_lt_of_le h.1 hs, (World.cell?_of_block (w := w) e).trans h.2.1, (World.cell?_of_block (w := w) e).trans h.2.2.1, (World.cell?_of_block (w := w) e).trans h.2.2.2.1, (World.cell?_of_block (w := w) e).trans h.2.2.2.2⟩
theorem Pt.alloc (h : Pt w b x y z v) (o : Obj) : Pt (w.alloc o) b x y z v := h.of_block (by simp) (Below.heap_alloc w o b h.1)
theorem Pt.below (h : Pt w b x y z v) (hb : Below w.heap.size w w') : Pt w' b x y z v := h.of_block hb.size (hb.block b h.1)
theorem Pt.grown {g : Nat} (h : Pt w b x y z v) (hg : w.grownBy w' (some g)) (hne : b ≠ g) : Pt w' b x y z v := h.of_block hg.size (hg.block b h.1 (fun e => hne (by injection e)))
end

theorem szPattern_ok (x y z L : Int) (A : Option Addr) (n cap : Nat) (w : World) (hL0 : 0 ≤ L) (hL : L ≤ 1048576) (hn : (n : Int) ≤ L) :
    Calls Try.prog 15 #[.agg #[.int .i8 x, .int .i8 y, .int .i8 z, .slice A n cap], .int .i64 L] w fun e w' => e = .returned (.int .i64 (L - n)) ∧ Below w.heap.size w w' := by
  have h1 : 0 ≤ L - (n : Int) := by omega
  go_enter Try.func15, Try.ntmps15
  go_wp2
  go_ret
  refine ⟨rfl, ?_⟩
  (repeat (first | exact Below.refl _ _ | apply Below.drew | refine Below.setCell ?_ (by first | (simp; done) | (simp; omega)) _ | refine Below.alloc ?_ (by first | (simp; done) | (simp; omega)) _))
theorem szPattern_big (x y z L : Int) (A : Option Addr) (n cap : Nat) (w : World) (hL0 : 0 ≤ L) (hL : L ≤ 1048576) (hn : L < (n : Int)) (hm : n ≤ 9223372036854775807) :
    Calls Try.prog 15 #[.agg #[.int .i8 x, .int .i8 y, .int .i8 z, .slice A n cap], .int .i64 L] w fun e w' => e = .returned (.int .i64 (-1)) ∧ Below w.heap.size w w' := by
  have h1 : L - (n : Int) < 0 := by omega
  go_enter Try.func15, Try.ntmps15
  go_wp2
  go_ret
  refine ⟨rfl, ?_⟩
  (repeat (first | exact Below.refl _ _ | apply Below.drew | refine Below.setCell ?_ (by first | (simp; done) | (simp; omega)) _ | refine Below.alloc ?_ (by first | (simp; done) | (simp; omega)) _))
theorem toPattern_any (x y z : Int) (A : Option Addr) (n cap N : Nat) (c : Nat → Int) (w : World) (hn : n ≤ 1048576) (hN : N ≤ w.heap.size) (hr : Rd8 w N A (4 * n) c) :
    Calls Try.prog 17 #[.agg #[.int .i8 x, .int .i8 y, .int .i8 z, .slice A n cap]] w fun e w' => ∃ g, e = .returned (.agg #[.int .i8 x, .int .i8 y, .int .i8 z, .slice (some ⟨g, 0, none⟩) n n]) ∧ w.heap.size ≤ g ∧ Below w.heap.size w w' ∧ w'.rowIs g 67 (4 * n) (fun j => .int .i8 (c j)) := by
  have hr0 := hr.mono hN
  have HR : ∀ W' : World, Below w.heap.size w W' → Rd8 W' W'.heap.size A (4 * n) c := fun W' h => (hr0.below h).mono h.size
  have HRh := Lib.hid HR
  clear HR hr hr0
  go_enter Try.func17, Try.ntmps17
  go_wp2_with fail
  refine (toSlabS_any A n cap c _ hn (HRh.out _ ?_)).mono ?_
  · (repeat (first | exact Below.refl _ _ | apply Below.drew | refine Below.setCell ?_ (by first | (simp; done) | (simp; omega)) _ | refine Below.alloc ?_ (by first | (simp; done) | (simp; omega)) _))
  rintro e w1 ⟨g, rfl, hg, hb1, hrow⟩
  obtain ⟨hc1, hf1⟩ := bcell hb1
  have hz : w.heap.size + 3 ≤ w1.heap.size := by have := hb1.size; simp at this; omega
  have hgl := hrow.lt
  have hB : Below w.heap.size w w1 := (((Below.refl _ w).alloc (Nat.le_refl _) _).alloc (by simp) _ |>.alloc (by simp; omega) _).trans (hb1.mono (by simp; omega))
  simp only [World.size_alloc] at hg hc1 hf1
  go_wp2
  refine bodyPost_ret (v := .agg #[.int .i8 x, .int .i8 y, .int .i8 z, .slice (some ⟨g, 0, none⟩) n n]) (by simp [results, Try.results17, go_sem, hc1]) rfl ⟨g, rfl, by omega, ?_, ?_⟩
  · exact ((((hB.setCell (by simp; omega) _).setCell (by simp) _).setCell (by simp) _).setCell (by simp) _).setCell (by simp) _
  · exact ((((hrow.setOther (by simp; omega) _).setOther (by simp; omega) _).setOther (by simp; omega) _).setOther (by simp; omega) _).setOther (by simp; omega) _
theorem eqPattern_yes (x y z : Int) (A B : Option Addr) (n m ca cb N : Nat) (c d : Nat → Int) (w : World) (hn : n ≤ 1048576) (hm : m ≤ 1048576) (hN : N ≤ w.heap.size) (hr : Rd8 w N A (4 * n) c) (hs : Rd8 w N B (4 * m) d) (heq : n = m ∧ ∀ j, j < 4 * n → c j = d j) :
    Calls Try.prog 19 #[.agg #[.int .i8 x, .int .i8 y, .int .i8 z, .slice A n ca], .agg #[.int .i8 x, .int .i8 y, .int .i8 z, .slice B m cb]] w fun e w' => e = .returned (.bool true) ∧ Below w.heap.size w w' := by
  have HR : ∀ W' : World, Below w.heap.size w W' → Rd8 W' N A (4 * n) c ∧ Rd8 W' N B (4 * m) d ∧ N ≤ W'.heap.size := fun W' h => ⟨hr.below (h.mono hN), hs.below (h.mono hN), Nat.le_trans hN h.size⟩
  have HRh := Lib.hid HR
  have HE := Lib.hid heq
  clear HR hr hs heq
  go_enter Try.func19, Try.ntmps19
  go_wp2_with fail
  have hB : Below w.heap.size w ((w.alloc (Obj.cells #[.int .i8 x, .int .i8 y, .int .i8 z, .slice A n ca] 30)).alloc (Obj.cells #[.int .i8 x, .int .i8 y, .int .i8 z, .slice B m cb] 30)) := by
    (repeat (first | exact Below.refl _ _ | apply Below.drew | refine Below.setCell ?_ (by first | (simp; done) | (simp; omega)) _ | refine Below.alloc ?_ (by first | (simp; done) | (simp; omega)) _))
  refine (eqSlabS_any A B n m ca cb N c d _ hn hm (HRh.out _ hB).2.2 (HRh.out _ hB).1 (HRh.out _ hB).2.1 HE.out).mono ?_
  rintro e w1 ⟨rfl, hb1⟩
  have hB1 := hB.trans (hb1.mono hB.size)
  go_wp2
  go_ret
  exact ⟨rfl, hB1⟩

section
variable {H : Type} {enc : TypeId × Value → H} {w : World}
theorem open_pattern {base : Nat} {v : Value} {d : DataW H} {p : List MemPlace} (hv : Value.okWide Try.prog w .any base 25 v) (h : DataW.Trod enc Try.prog w 0 (fun _ => true) true 25 v d p) :
    ∃ x y z A n cap c, v = .agg #[.int .i8 x, .int .i8 y, .int .i8 z, .slice A n cap] ∧ (-128 ≤ x ∧ x ≤ 127) ∧ (-128 ≤ y ∧ y ≤ 127) ∧ (-128 ≤ z ∧ z ≤ 127) ∧ n ≤ maxLen ∧ Rd8 w w.heap.size A (4 * n) c ∧ ∀ j, -128 ≤ c j ∧ c j ≤ 127 := by
  obtain ⟨c0, c1, c2, c3, y0, y1, y2, y3, m, rfl, _, _, hy0, hy1, hy2, hy3⟩ := open_agg4 Try.underlying25 (by kernel_rfl) (by kernel_rfl) hv h
  obtain ⟨x, e0, _, wx⟩ := DataW.trod_int Try.underlying22 hy0
  obtain ⟨y, e1, _, wy⟩ := DataW.trod_int Try.underlying22 hy1
  obtain ⟨z, e2, _, wz⟩ := DataW.trod_int Try.underlying22 hy2
  obtain ⟨A, n, cap, c, rfl, hn, hr, hc⟩ := open_slabs hy3
  have hx : c0 = .int .i8 x := by simpa using e0
  have hy : c1 = .int .i8 y := by simpa using e1
  have hz : c2 = .int .i8 z := by simpa using e2
  subst hx hy hz
  exact ⟨x, y, z, A, n, cap, c, rfl, bd8 wx, bd8 wy, bd8 wz, hn, hr, hc⟩
end
end Go.Proofs.Yteebkookoidheab
