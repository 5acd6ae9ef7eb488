/-
  Slices of setts as arguments of a law: opened, copied, compared, marked. Conditions stand at each.
-/
import Derived.Test.YtneijlogidhgiaaDoorRows
import Derived.Test.YtneijlogidhgiaaDoorNums
namespace Go.Proofs.YtneijlogidhgiaaDoor
open Go Go.ChangeShapes Go.WideShapes Go.ChangeAt Go.RowKit Go.Deep Go.Joins
set_option linter.unusedVariables false
set_option linter.unusedSimpArgs false
set_option maxRecDepth 100000
set_option maxHeartbeats 2000000

theorem bd16 {n : Int} (h : (Lit.int .i16 n).wf = true) : -32768 ≤ n ∧ n ≤ 32767 := by
  have hmin : IntKind.i16.min = -32768 := rfl
  have hmax : IntKind.i16.max = 32767 := rfl
  simp only [Lit.wf, Bool.and_eq_true, decide_eq_true_eq] at h
  omega

/-- n setts of block b from off on. -/
def RdS (w : World) (B : Nat) (A : Option Addr) (n : Nat) (c d : Nat → Int) : Prop :=
  0 < n → ∃ b off, A = some ⟨b, off, none⟩ ∧ b < B ∧ ∀ j, j < n → w.cell? ⟨b, off + j * 2, none⟩ = some (.int .i8 (c j)) ∧ w.cell? ⟨b, off + j * 2 + 1, none⟩ = some (.int .i16 (d j))
def OwnS (w : World) (g n : Nat) (c d : Nat → Int) : Prop :=
  ∀ j, j < n → (w.cell? ⟨g, j * 2, none⟩ = some (.int .i8 (c j)) ∧ w.cell? ⟨g, j * 2 + 1, none⟩ = some (.int .i16 (d j))) ∧ (w.frozen? ⟨g, j * 2, none⟩ = false ∧ w.frozen? ⟨g, j * 2 + 1, none⟩ = false)
def As (w : World) (g n : Nat) (c d : Nat → Int) : Prop := g < w.heap.size ∧ OwnS w g n c d
section
variable {w w' : World} {B B' g n : Nat} {A : Option Addr} {c d c' d' : Nat → Int}
theorem RdS.below (h : RdS w B A n c d) (hb : Below B w w') : RdS w' B A n c d := fun h0 => by
  obtain ⟨b, off, e, hl, hc⟩ := h h0
  exact ⟨b, off, e, hl, fun j hj => ⟨(hb.cell (p := ⟨b, off + j * 2, none⟩) hl).trans (hc j hj).1, (hb.cell (p := ⟨b, off + j * 2 + 1, none⟩) hl).trans (hc j hj).2⟩⟩
theorem RdS.mono (h : RdS w B A n c d) (hb : B ≤ B') : RdS w B' A n c d := fun h0 => by
  obtain ⟨b, off, e, hl, hc⟩ := h h0
  exact ⟨b, off, e, by omega, hc⟩
theorem RdS.at (h : RdS w B A n c d) {k : Nat} (hk : k < n) : ∃ b off, A = some ⟨b, off, none⟩ ∧ b < B ∧ w.cell? ⟨b, off + k * 2, none⟩ = some (.int .i8 (c k)) ∧ w.cell? ⟨b, off + k * 2 + 1, none⟩ = some (.int .i16 (d k)) := by
  obtain ⟨b, off, e, hl, hc⟩ := h (by omega)
  exact ⟨b, off, e, hl, hc k hk⟩
theorem OwnS.congr (h : OwnS w g n c d) (e : ∀ j, j < n → c j = c' j ∧ d j = d' j) : OwnS w g n c' d' := fun j hj => by
  obtain ⟨e1, e2⟩ := e j hj
  rw [← e1, ← e2]; exact h j hj
theorem OwnS.of_block (h : OwnS w g n c d) (e : w'.heap[g]? = w.heap[g]?) : OwnS w' g n c d := fun j hj =>
  ⟨⟨(World.cell?_of_block (w := w) e).trans (h j hj).1.1, (World.cell?_of_block (w := w) e).trans (h j hj).1.2⟩, ⟨(World.frozen?_of_block (w := w) e).trans (h j hj).2.1, (World.frozen?_of_block (w := w) e).trans (h j hj).2.2⟩⟩
theorem OwnS.set (h : OwnS w g n c d) {i : Nat} (hi : i < n) (u v : Int) :
    OwnS ((w.setCell ⟨g, i * 2, none⟩ (.int .i8 u)).setCell ⟨g, i * 2 + 1, none⟩ (.int .i16 v)) g n (fun j => if j = i then u else c j) (fun j => if j = i then v else d j) := fun j hj => by
  obtain ⟨⟨h1, h2⟩, h3, h4⟩ := h j hj
  refine ⟨?_, by rw [World.frozen?_setCell, World.frozen?_setCell]; exact h3, by rw [World.frozen?_setCell, World.frozen?_setCell]; exact h4⟩
  by_cases e : j = i
  · subst e
    simp only [if_true]
    refine ⟨?_, ?_⟩
    · rw [World.cell?_setCell_other _ _ _ _ (fun he => by injection he; omega)]
      exact World.cell?_setCell_same' _ _ _ (by rw [h1]; rfl)
    · exact World.cell?_setCell_same' _ _ _ (by rw [World.cell?_setCell_other _ _ _ _ (fun he => by injection he; omega), h2]; rfl)
  · simp only [if_neg e]
    refine ⟨?_, ?_⟩
    · rw [World.cell?_setCell_other _ _ _ _ (fun he => by injection he; omega), World.cell?_setCell_other _ _ _ _ (fun he => e (by injection he; omega))]
      exact h1
    · rw [World.cell?_setCell_other _ _ _ _ (fun he => e (by injection he; omega)), World.cell?_setCell_other _ _ _ _ (fun he => by injection he; omega)]
      exact h2
theorem As.kept (h : As w g n c d) (hs : w.heap.size ≤ w'.heap.size) (e : w'.heap[g]? = w.heap[g]?) : As w' g n c d := ⟨Nat.lt_of_lt_of_le h.1 hs, h.2.of_block e⟩
theorem As.below (h : As w g n c d) (hb : Below w.heap.size w w') : As w' g n c d := h.kept hb.size (hb.block g h.1)
theorem As.alloc (h : As w g n c d) (o : Obj) : As (w.alloc o) g n c d := h.kept (by simp) (Below.heap_alloc w o g h.1)
theorem As.rd (h : As w g n c d) : RdS w w.heap.size (some ⟨g, 0, none⟩) n c d := fun _ => ⟨g, 0, rfl, h.1, fun j hj => by rw [Nat.zero_add]; exact (h.2 j hj).1⟩
end

section
variable {H : Type} {enc : TypeId × Value → H} {w : World}
theorem open_setts {base : Nat} {v : Value} {x : DataW H} {p : List MemPlace} (hv : Value.okWide Tryd.prog w .any base 22 v) (h0 : DataW.Trod enc Tryd.prog w 0 (fun _ => true) true 22 v x p) :
    ∃ A n cap c d, v = .slice A n cap ∧ n ≤ maxLen ∧ RdS w w.heap.size A n c d ∧ (∀ j, -128 ≤ c j ∧ c j ≤ 127) ∧ ∀ j, -32768 ≤ d j ∧ d j ≤ 32767 := by
  obtain ⟨A', n', cap', rfl⟩ := okWide_slice Tryd.underlying22 hv
  obtain ⟨fuel, h⟩ := h0
  rw [show (Value.slice A' n' cap').cells.toList = [Value.slice A' n' cap'] from rfl] at h
  rcases open_slice_fields Tryd.underlying22 Tryd.underlying51 (by kernel_rfl) (by kernel_rfl) h with ⟨hcs, _⟩ | ⟨a, len, cap, m, D, Pl, hcs, _, hl, hm, hmm, _, hi⟩
  · exact ⟨none, 0, 0, fun _ => 0, fun _ => 0, by simpa using hcs, by simp [maxLen], fun h0 => absurd h0 (by omega), fun _ => (by decide : -128 ≤ (0 : Int) ∧ (0 : Int) ≤ 127), fun _ => (by decide : -32768 ≤ (0 : Int) ∧ (0 : Int) ≤ 32767)⟩
  · simp only [if_true] at hmm
    subst hmm
    have hcell : ∀ k, k < len → ∃ z z' : Int, (w.cell? (a.add (k * 2)) = some (.int .i8 z) ∧ w.cell? (a.add (k * 2 + 1)) = some (.int .i16 z')) ∧ (-128 ≤ z ∧ z ≤ 127) ∧ (-32768 ≤ z' ∧ z' ≤ 32767) := by
      intro k hk
      obtain ⟨ys, n, _, _, _, hf⟩ := hi k (by omega)
      obtain ⟨v0, y0, hc0, _, ht0⟩ := hf 0 _ rfl
      obtain ⟨v1, y1, hc1, _, ht1⟩ := hf 1 _ rfl
      obtain ⟨z, e, _, wz⟩ := DataW.trod_int (k := .i8) (by kernel_rfl) ht0
      obtain ⟨z', e', _, wz'⟩ := DataW.trod_int (k := .i16) (by kernel_rfl) ht1
      have hv : v0 = .int .i8 z := by simpa using e
      have hv' : v1 = .int .i16 z' := by simpa using e'
      subst hv hv'
      exact ⟨z, z', ⟨hc0, hc1⟩, bd8 wz, bd16 wz'⟩
    refine ⟨some a, len, _, fun k => if hk : k < len then Classical.choose (hcell k hk) else 0, fun k => if hk : k < len then Classical.choose (Classical.choose_spec (hcell k hk)) else 0, by simpa using hcs, by omega, fun h0 => ?_, fun j => ?_, fun j => ?_⟩
    · have h00 := (Classical.choose_spec (Classical.choose_spec (hcell 0 h0))).1.1
      have hs := World.cell?_spot h00
      have hbl := block_lt_of_cell h00
      obtain ⟨b, off, spot⟩ := a
      have hsp : spot = none := by simpa [Addr.add] using hs
      subst hsp
      refine ⟨b, off, rfl, by simpa [Addr.add] using hbl, fun j hj => ?_⟩
      simp only [dif_pos hj]
      rw [Nat.add_assoc, ← Go.WideShapes.add_plain, ← Go.WideShapes.add_plain]
      exact (Classical.choose_spec (Classical.choose_spec (hcell j hj))).1
    · by_cases hj : j < len
      · simp only [dif_pos hj]
        exact (Classical.choose_spec (Classical.choose_spec (hcell j hj))).2.1
      · simp only [dif_neg hj]
        decide
    · by_cases hj : j < len
      · simp only [dif_pos hj]
        exact (Classical.choose_spec (Classical.choose_spec (hcell j hj))).2.2
      · simp only [dif_neg hj]
        decide
end

theorem infoSett : (Tryd.prog.info? 49).map (fun i => (i.zero, i.size, i.bytes)) = some (some (.agg #[.int .i8 0, .int .i16 0]), 2, 4) := by kernel_rfl

theorem szSettS_ok (A : Option Addr) (n cap : Nat) (L : Int) (w : World) (hL0 : 0 ≤ L) (hL : L ≤ 1048576) (hn : (n : Int) ≤ L) :
    Calls Tryd.prog 6 #[.slice A n cap, .int .i64 L] w fun e w' => e = .returned (.int .i64 (L - n)) ∧ w = w' := by
  have h1 : 0 ≤ L - (n : Int) := by omega
  go_enter Tryd.func6, Tryd.ntmps6
  go_wp2
  go_ret
  exact ⟨rfl, rfl⟩
theorem szSettS_big (A : Option Addr) (n cap : Nat) (L : Int) (w : World) (hL0 : 0 ≤ L) (hL : L ≤ 1048576) (hn : L < (n : Int)) (hm : n ≤ 9223372036854775807) :
    Calls Tryd.prog 6 #[.slice A n cap, .int .i64 L] w fun e w' => e = .returned (.int .i64 (-1)) ∧ w = w' := by
  have h1 : L - (n : Int) < 0 := by omega
  go_enter Tryd.func6, Tryd.ntmps6
  go_wp2
  go_ret
  exact ⟨rfl, rfl⟩

theorem toSett_any (x y : Int) (w : World) : Calls Tryd.prog 22 #[.agg #[.int .i8 x, .int .i16 y]] w fun e w' => e = .returned (.agg #[.int .i8 x, .int .i16 y]) ∧ Below w.heap.size w w' := by
  go_enter Tryd.func22, Tryd.ntmps22
  go_wp2
  refine bodyPost_ret (v := .agg #[.int .i8 x, .int .i16 y]) (by simp [results, Tryd.results22, go_sem]) rfl ⟨rfl, ?_⟩
  (repeat (first | exact Below.refl _ _ | apply Below.drew | refine Below.setCell ?_ (by first | (simp; done) | (simp; omega)) _ | refine Below.alloc ?_ (by first | (simp; done) | (simp; omega)) _))

theorem eqSett_yes (x y : Int) (w : World) : Calls Tryd.prog 26 #[.agg #[.int .i8 x, .int .i16 y], .agg #[.int .i8 x, .int .i16 y]] w fun e w' => e = .returned (.bool true) ∧ Below w.heap.size w w' := by
  go_enter Tryd.func26, Tryd.ntmps26
  go_wp2
  go_ret
  refine ⟨rfl, ?_⟩
  (repeat (first | exact Below.refl _ _ | apply Below.drew | refine Below.setCell ?_ (by first | (simp; done) | (simp; omega)) _ | refine Below.alloc ?_ (by first | (simp; done) | (simp; omega)) _))

theorem rowIs_made2 (w : World) (z u : Value) (n : Nat) (t : TypeId) : ∀ j, j * 2 + 1 < n → ((w.alloc (.cells (madeCells #[z, u] n) t)).cell? ⟨w.heap.size, j * 2, none⟩ = some z ∧ (w.alloc (.cells (madeCells #[z, u] n) t)).cell? ⟨w.heap.size, j * 2 + 1, none⟩ = some u) ∧
    ((w.alloc (.cells (madeCells #[z, u] n) t)).frozen? ⟨w.heap.size, j * 2, none⟩ = false ∧ (w.alloc (.cells (madeCells #[z, u] n) t)).frozen? ⟨w.heap.size, j * 2 + 1, none⟩ = false) := by
  have hr : (w.alloc (.cells (madeCells #[z, u] n) t)).rowIs w.heap.size t n (fun j => if j % 2 = 0 then z else u) := by
    refine World.rowIs_alloc w _ t _ ?_ |> fun h => by rwa [size_madeCells] at h
    intro i hi
    rw [size_madeCells] at hi
    have : i % 2 = 0 ∨ i % 2 = 1 := by omega
    rcases this with h | h <;> simp [madeCells, hi, h]
  intro j hj
  have h0 := hr.cell (i := j * 2) (by omega)
  have h1 := hr.cell (i := j * 2 + 1) (by omega)
  rw [if_pos (by omega)] at h0
  rw [if_neg (by omega)] at h1
  exact ⟨⟨h0, h1⟩, hr.frozen _, hr.frozen _⟩

set_option maxHeartbeats 400000 in
theorem toSettS_any (A : Option Addr) (n cap N : Nat) (c d : Nat → Int) (w : World) (hn : n ≤ 1048576) (hN : N ≤ w.heap.size) (hr : RdS w N A n c d) :
    Calls Tryd.prog 8 #[.slice A n cap] w fun e w' => ∃ g, e = .returned (.slice (some ⟨g, 0, none⟩) n n) ∧ w.heap.size ≤ g ∧ Below w.heap.size w w' ∧ As w' g n c d := by
  obtain ⟨i0, hi, hz0, hz1, hz2⟩ := info_parts infoSett
  have hmk := fun W => run_make_rowN (P := Tryd.prog) 25 49 i0 _ Tryd.underlying25 hi hz0 .i64 .i64 n n (Nat.le_refl _) (by rw [hz2]; omega) (by omega) W
  have HR := Lib.hid hr
  clear hr
  go_enter Tryd.func8, Tryd.ntmps8
  go_wp2
  obtain ⟨W0, hW0⟩ : ∃ W0 : World, W0 = (w.alloc (.cells (madeCells #[.int .i8 0, .int .i16 0] (n * 2)) 49)) := ⟨_, rfl⟩
  have hb0 : Below w.heap.size w W0 := by rw [hW0]; exact (Below.refl _ _).alloc (Nat.le_refl _) _
  have hg0 : w.heap.size < W0.heap.size := by rw [hW0]; simp
  have hrow0 : OwnS W0 w.heap.size n (fun _ => 0) (fun _ => 0) := by rw [hW0]; exact fun j hj => rowIs_made2 w _ _ (n * 2) _ j (by omega)
  rw [← hW0]
  clear hW0 hmk
  go_loopw [4] (fun i wr => ∃ k : Nat, k ≤ n ∧ i = .int .i64 k ∧ Below w.heap.size w wr ∧ w.heap.size < wr.heap.size ∧ OwnS wr w.heap.size n (fun j => if j < k then c j else 0) (fun j => if j < k then d j else 0)) (fun i _ => n - (intOf i).toNat)
  case atStart => exact ⟨0, by omega, rfl, hb0, hg0, hrow0.congr (fun j _ => by simp)⟩
  case round =>
    obtain ⟨k, hk, rfl, hb, hg, hrow⟩ := hrel
    by_cases hlt : k < n
    · obtain ⟨b, off, rfl, hbl, c0, c1⟩ := (HR.out.below (hb.mono hN)).at hlt
      go_wp2_with (go_at_call 22; refine (toSett_any _ _ _).mono ?_; rintro e w1 ⟨rfl, hb1⟩; have hrow1 := hrow.of_block (hb1.block _ hg); obtain ⟨⟨d0, d1⟩, f0, f1⟩ := hrow1 k hlt; have hz := Nat.lt_of_lt_of_le hg hb1.size)
      go_roundw
      case rel =>
        refine ⟨k + 1, by omega, by go_num, (((hb.trans (hb1.mono hb.size)).setCell (Nat.le_refl _) _).setCell (Nat.le_refl _) _), by simpa using hz, ?_⟩
        refine (hrow1.set hlt (c k) (d k)).congr fun j hj => ?_
        by_cases e : j = k
        · subst e; simp
        · simp only [if_neg e]
          by_cases hj' : j < k
          · simp only [if_pos hj', if_pos (show j < k + 1 by omega), and_self]
          · simp only [if_neg hj', if_neg (show ¬ j < k + 1 by omega), and_self]
      case measure => simp [intOf]; omega
    · obtain rfl : k = n := by omega
      go_wp2
      go_ret
      exact ⟨_, rfl, Nat.le_refl _, hb, hg, hrow.congr (fun j hj => by simp only [if_pos hj, and_self])⟩

theorem eqSettS_any (A B : Option Addr) (n m ca cb N : Nat) (c d c' d' : Nat → Int) (w : World) (hn : n ≤ 1048576) (hm : m ≤ 1048576) (hN : N ≤ w.heap.size) (hr : RdS w N A n c d) (hs : RdS w N B m c' d') (heq : n = m ∧ ∀ j, j < n → c j = c' j ∧ d j = d' j) :
    Calls Tryd.prog 10 #[.slice A n ca, .slice B m cb] w fun e w' => e = .returned (.bool true) ∧ Below w.heap.size w w' := by
  obtain ⟨rfl, hcd⟩ := heq
  have HC := Lib.hid hcd
  have HR := Lib.hid hr
  have HS := Lib.hid hs
  clear hcd hr hs
  have hnn : ((n : Int) == (n : Int)) = true := by simp
  have hnb : ((n : Int) != (n : Int)) = false := by simp
  go_enter Tryd.func10, Tryd.ntmps10
  go_wp2
  go_loopw [5] (fun i wr => ∃ k : Nat, k ≤ n ∧ i = .int .i64 k ∧ Below w.heap.size w wr) (fun i wr => n - (intOf i).toNat)
  case atStart => exact ⟨0, by omega, rfl, Below.refl _ _⟩
  case round =>
    obtain ⟨k, hk, rfl, hb⟩ := hrel
    by_cases hlt : k < n
    · obtain ⟨b, off, rfl, hbl, c0, c1⟩ := (HR.out.below (hb.mono hN)).at hlt
      obtain ⟨b', off', rfl, hbl', d0, d1⟩ := (HS.out.below (hb.mono hN)).at hlt
      rw [← (HC.out _ hlt).1] at d0
      rw [← (HC.out _ hlt).2] at d1
      go_wp2
      go_still_tail 8, (by kernel_rfl)
      change wpList _ _ _ _ _ wr.drew
      go_wp2_with (go_at_call 26; refine (eqSett_yes _ _ _).mono ?_; rintro e w1 ⟨rfl, hb1⟩)
      go_roundw
      case rel => exact ⟨k + 1, by omega, by go_num, hb.drew.trans (hb1.mono hb.size)⟩
      case measure => simp [intOf]; omega
    · obtain rfl : k = n := by omega
      go_wp2
      go_ret
      exact ⟨rfl, hb⟩

end Go.Proofs.YtneijlogidhgiaaDoor
