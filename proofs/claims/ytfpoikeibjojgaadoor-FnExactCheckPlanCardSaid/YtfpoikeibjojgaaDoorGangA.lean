/-
  Slices of gangs as arguments of a law: opened, copied, compared. Conditions stand at each.
-/
import Derived.Test.YtfpoikeibjojgaaDoorRows
import Derived.Test.YtfpoikeibjojgaaDoorGangL
import Derived.Test.YtfpoikeibjojgaaDoorOpenG
import Derived.Test.YtfpoikeibjojgaaDoorRowsA
namespace Go.Proofs.YtfpoikeibjojgaaDoor
open Go Go.ChangeShapes Go.WideShapes Go.ChangeAt Go.RowKit Go.Deep Go.Joins
set_option linter.unusedVariables false
set_option linter.unusedSimpArgs false
set_option maxRecDepth 100000
set_option maxHeartbeats 4000000
def OwnGs (w : World) (b n : Nat) (g : Gs) : Prop :=
  ∀ j, j < n → (w.cell? ⟨b, j * 5, none⟩ = some (.int .i8 (g.p j)) ∧ w.cell? ⟨b, j * 5 + 1, none⟩ = some (.int .i8 (g.q j)) ∧ w.cell? ⟨b, j * 5 + 2, none⟩ = some (.int .i8 (g.s j)) ∧ w.cell? ⟨b, j * 5 + 3, none⟩ = some (.int .i8 (g.t j)) ∧ w.cell? ⟨b, j * 5 + 4, none⟩ = some (.int .i16 (g.u j))) ∧ (w.frozen? ⟨b, j * 5, none⟩ = false ∧ w.frozen? ⟨b, j * 5 + 1, none⟩ = false ∧ w.frozen? ⟨b, j * 5 + 2, none⟩ = false ∧ w.frozen? ⟨b, j * 5 + 3, none⟩ = false ∧ w.frozen? ⟨b, j * 5 + 4, none⟩ = false)
def ArG (w : World) (b n : Nat) (g : Gs) : Prop := b < w.heap.size ∧ OwnGs w b n g
section
variable {w w' : World} {B B' b n : Nat} {A : Option Addr} {g g' : Gs}
theorem OwnGs.congr (h : OwnGs w b n g) (e : ∀ j, j < n → g.p j = g'.p j ∧ g.q j = g'.q j ∧ g.s j = g'.s j ∧ g.t j = g'.t j ∧ g.u j = g'.u j) : OwnGs w b n g' := fun j hj => by
  obtain ⟨e1, e2, e3, e4, e5⟩ := e j hj
  rw [← e1, ← e2, ← e3, ← e4, ← e5]; exact h j hj
theorem OwnGs.of_block (h : OwnGs w b n g) (e : w'.heap[b]? = w.heap[b]?) : OwnGs w' b n g := fun j hj => by
  obtain ⟨⟨h0, h1, h2, h3, h4⟩, f0, f1, f2, f3, f4⟩ := h j hj
  exact ⟨⟨(World.cell?_of_block (w := w) e).trans h0, (World.cell?_of_block (w := w) e).trans h1, (World.cell?_of_block (w := w) e).trans h2, (World.cell?_of_block (w := w) e).trans h3, (World.cell?_of_block (w := w) e).trans h4⟩,
    (World.frozen?_of_block (w := w) e).trans f0, (World.frozen?_of_block (w := w) e).trans f1, (World.frozen?_of_block (w := w) e).trans f2, (World.frozen?_of_block (w := w) e).trans f3, (World.frozen?_of_block (w := w) e).trans f4⟩
theorem OwnGs.set (h : OwnGs w b n g) {i : Nat} (hi : i < n) (v : Gs) :
    OwnGs (((((w.setCell ⟨b, i * 5, none⟩ (.int .i8 (v.p i))).setCell ⟨b, i * 5 + 1, none⟩ (.int .i8 (v.q i))).setCell ⟨b, i * 5 + 2, none⟩ (.int .i8 (v.s i))).setCell ⟨b, i * 5 + 3, none⟩ (.int .i8 (v.t i))).setCell ⟨b, i * 5 + 4, none⟩ (.int .i16 (v.u i))) b n ⟨fun j => if j = i then v.p j else g.p j, fun j => if j = i then v.q j else g.q j, fun j => if j = i then v.s j else g.s j, fun j => if j = i then v.t j else g.t j, fun j => if j = i then v.u j else g.u j⟩ := fun j hj => by
  obtain ⟨⟨h0, h1, h2, h3, h4⟩, f0, f1, f2, f3, f4⟩ := h j hj
  refine ⟨?_, by simp only [World.frozen?_setCell]; exact f0, by simp only [World.frozen?_setCell]; exact f1, by simp only [World.frozen?_setCell]; exact f2, by simp only [World.frozen?_setCell]; exact f3, by simp only [World.frozen?_setCell]; exact f4⟩
  by_cases e : j = i
  · subst e
    simp only [if_true]
    refine ⟨?_, ?_, ?_, ?_, ?_⟩
    · rw [World.cell?_setCell_other _ _ _ _ (fun he => by injection he; omega)]; rw [World.cell?_setCell_other _ _ _ _ (fun he => by injection he; omega)]; rw [World.cell?_setCell_other _ _ _ _ (fun he => by injection he; omega)]; rw [World.cell?_setCell_other _ _ _ _ (fun he => by injection he; omega)]; exact World.cell?_setCell_same' _ _ _ (by rw [h0]; rfl)
    · rw [World.cell?_setCell_other _ _ _ _ (fun he => by injection he; omega)]; rw [World.cell?_setCell_other _ _ _ _ (fun he => by injection he; omega)]; rw [World.cell?_setCell_other _ _ _ _ (fun he => by injection he; omega)]; exact World.cell?_setCell_same' _ _ _ (by rw [World.cell?_setCell_other _ _ _ _ (fun he => by injection he; omega)]; rw [h1]; rfl)
    · rw [World.cell?_setCell_other _ _ _ _ (fun he => by injection he; omega)]; rw [World.cell?_setCell_other _ _ _ _ (fun he => by injection he; omega)]; exact World.cell?_setCell_same' _ _ _ (by rw [World.cell?_setCell_other _ _ _ _ (fun he => by injection he; omega)]; rw [World.cell?_setCell_other _ _ _ _ (fun he => by injection he; omega)]; rw [h2]; rfl)
    · rw [World.cell?_setCell_other _ _ _ _ (fun he => by injection he; omega)]; exact World.cell?_setCell_same' _ _ _ (by rw [World.cell?_setCell_other _ _ _ _ (fun he => by injection he; omega)]; rw [World.cell?_setCell_other _ _ _ _ (fun he => by injection he; omega)]; rw [World.cell?_setCell_other _ _ _ _ (fun he => by injection he; omega)]; rw [h3]; rfl)
    · exact World.cell?_setCell_same' _ _ _ (by rw [World.cell?_setCell_other _ _ _ _ (fun he => by injection he; omega)]; rw [World.cell?_setCell_other _ _ _ _ (fun he => by injection he; omega)]; rw [World.cell?_setCell_other _ _ _ _ (fun he => by injection he; omega)]; rw [World.cell?_setCell_other _ _ _ _ (fun he => by injection he; omega)]; rw [h4]; rfl)
  · simp only [if_neg e]
    refine ⟨?_, ?_, ?_, ?_, ?_⟩
    · rw [World.cell?_setCell_other _ _ _ _ (fun he => by injection he; omega)]; rw [World.cell?_setCell_other _ _ _ _ (fun he => by injection he; omega)]; rw [World.cell?_setCell_other _ _ _ _ (fun he => by injection he; omega)]; rw [World.cell?_setCell_other _ _ _ _ (fun he => by injection he; omega)]; rw [World.cell?_setCell_other _ _ _ _ (fun he => by injection he; omega)]; exact h0
    · rw [World.cell?_setCell_other _ _ _ _ (fun he => by injection he; omega)]; rw [World.cell?_setCell_other _ _ _ _ (fun he => by injection he; omega)]; rw [World.cell?_setCell_other _ _ _ _ (fun he => by injection he; omega)]; rw [World.cell?_setCell_other _ _ _ _ (fun he => by injection he; omega)]; rw [World.cell?_setCell_other _ _ _ _ (fun he => by injection he; omega)]; exact h1
    · rw [World.cell?_setCell_other _ _ _ _ (fun he => by injection he; omega)]; rw [World.cell?_setCell_other _ _ _ _ (fun he => by injection he; omega)]; rw [World.cell?_setCell_other _ _ _ _ (fun he => by injection he; omega)]; rw [World.cell?_setCell_other _ _ _ _ (fun he => by injection he; omega)]; rw [World.cell?_setCell_other _ _ _ _ (fun he => by injection he; omega)]; exact h2
    · rw [World.cell?_setCell_other _ _ _ _ (fun he => by injection he; omega)]; rw [World.cell?_setCell_other _ _ _ _ (fun he => by injection he; omega)]; rw [World.cell?_setCell_other _ _ _ _ (fun he => by injection he; omega)]; rw [World.cell?_setCell_other _ _ _ _ (fun he => by injection he; omega)]; rw [World.cell?_setCell_other _ _ _ _ (fun he => by injection he; omega)]; exact h3
    · rw [World.cell?_setCell_other _ _ _ _ (fun he => by injection he; omega)]; rw [World.cell?_setCell_other _ _ _ _ (fun he => by injection he; omega)]; rw [World.cell?_setCell_other _ _ _ _ (fun he => by injection he; omega)]; rw [World.cell?_setCell_other _ _ _ _ (fun he => by injection he; omega)]; rw [World.cell?_setCell_other _ _ _ _ (fun he => by injection he; omega)]; exact h4
theorem ArG.kept (h : ArG w b n g) (hs : w.heap.size ≤ w'.heap.size) (e : w'.heap[b]? = w.heap[b]?) : ArG w' b n g := ⟨Nat.lt_of_lt_of_le h.1 hs, h.2.of_block e⟩
theorem ArG.below (h : ArG w b n g) (hb : Below w.heap.size w w') : ArG w' b n g := h.kept hb.size (hb.block b h.1)
theorem ArG.rd (h : ArG w b n g) : RdG w w.heap.size (some ⟨b, 0, none⟩) n g := fun _ => ⟨b, 0, rfl, h.1, fun j hj => by rw [Nat.zero_add]; exact (h.2 j hj).1⟩
end
section
variable {H : Type} {enc : TypeId × Value → H} {w : World}
theorem open_gangs {base : Nat} {v : Value} {x : DataW H} {p : List MemPlace} (hv : Value.okWide Tryd.prog w .any base 36 v) (h0 : DataW.Trod enc Tryd.prog w 0 (fun _ => true) true 36 v x p) :
    ∃ A n cap g, v = .slice A n cap ∧ n ≤ maxLen ∧ RdG w w.heap.size A n g ∧ g.bd := by
  obtain ⟨A', n', cap', rfl⟩ := okWide_slice Tryd.underlying36 hv
  obtain ⟨fuel, h⟩ := h0
  rw [show (Value.slice A' n' cap').cells.toList = [Value.slice A' n' cap'] from rfl] at h
  rcases open_slice_fields Tryd.underlying36 Tryd.underlying25 (by kernel_rfl) (by kernel_rfl) h with ⟨hcs, _⟩ | ⟨a, len, cap, m, D, Pl, hcs, _, hl, hm, hmm, _, hi⟩
  · exact ⟨none, 0, 0, ⟨fun _ => 0, fun _ => 0, fun _ => 0, fun _ => 0, fun _ => 0⟩, by simpa using hcs, by simp [maxLen], fun h0 => absurd h0 (by omega), fun _ => by simp⟩
  · simp only [if_true] at hmm
    subst hmm
    have hcell : ∀ k, ∃ z : Int × Int × Int × Int × Int, (k < len → w.cell? (a.add (k * 5)) = some (.int .i8 z.1) ∧ w.cell? (a.add (k * 5 + 1)) = some (.int .i8 z.2.1) ∧ w.cell? (a.add (k * 5 + 2)) = some (.int .i8 z.2.2.1) ∧ w.cell? (a.add (k * 5 + 3)) = some (.int .i8 z.2.2.2.1) ∧ w.cell? (a.add (k * 5 + 4)) = some (.int .i16 z.2.2.2.2)) ∧
        (-128 ≤ z.1 ∧ z.1 ≤ 127) ∧ (-128 ≤ z.2.1 ∧ z.2.1 ≤ 127) ∧ (-128 ≤ z.2.2.1 ∧ z.2.2.1 ≤ 127) ∧ (-128 ≤ z.2.2.2.1 ∧ z.2.2.2.1 ≤ 127) ∧ (-32768 ≤ z.2.2.2.2 ∧ z.2.2.2.2 ≤ 32767) := by
      intro k
      by_cases hk : k < len
      · obtain ⟨ys, n, _, _, _, hf⟩ := hi k (by omega)
        obtain ⟨v0, y0, hc0, _, ht0⟩ := hf 0 _ rfl
        obtain ⟨z0, e0, _, wz0⟩ := DataW.trod_int (k := .i8) (by kernel_rfl) ht0
        have hv0 : v0 = .int .i8 z0 := by simpa using e0
        subst hv0
        obtain ⟨v1, y1, hc1, _, ht1⟩ := hf 1 _ rfl
        obtain ⟨z1, e1, _, wz1⟩ := DataW.trod_int (k := .i8) (by kernel_rfl) ht1
        have hv1 : v1 = .int .i8 z1 := by simpa using e1
        subst hv1
        obtain ⟨v2, y2, hc2, _, ht2⟩ := hf 2 _ rfl
        obtain ⟨z2, e2, _, wz2⟩ := DataW.trod_int (k := .i8) (by kernel_rfl) ht2
        have hv2 : v2 = .int .i8 z2 := by simpa using e2
        subst hv2
        obtain ⟨v3, y3, hc3, _, ht3⟩ := hf 3 _ rfl
        obtain ⟨z3, e3, _, wz3⟩ := DataW.trod_int (k := .i8) (by kernel_rfl) ht3
        have hv3 : v3 = .int .i8 z3 := by simpa using e3
        subst hv3
        obtain ⟨v4, y4, hc4, _, ht4⟩ := hf 4 _ rfl
        obtain ⟨z4, e4, _, wz4⟩ := DataW.trod_int (k := .i16) (by kernel_rfl) ht4
        have hv4 : v4 = .int .i16 z4 := by simpa using e4
        subst hv4
        exact ⟨(z0, z1, z2, z3, z4), fun _ => ⟨hc0, hc1, hc2, hc3, hc4⟩, bd8 wz0, bd8 wz1, bd8 wz2, bd8 wz3, bd16 wz4⟩
      · exact ⟨(0, 0, 0, 0, 0), fun h => absurd h hk, by decide⟩
    obtain ⟨Z, hZ⟩ := Classical.axiomOfChoice hcell
    refine ⟨some a, len, _, ⟨fun k => (Z k).1, fun k => (Z k).2.1, fun k => (Z k).2.2.1, fun k => (Z k).2.2.2.1, fun k => (Z k).2.2.2.2⟩, by simpa using hcs, by omega, fun h0 => ?_, fun j => (hZ j).2⟩
    have h00 := ((hZ 0).1 h0).1
    have hs := World.cell?_spot h00
    have hbl := block_lt_of_cell h00
    obtain ⟨b, off, spot⟩ := a
    have hsp : spot = none := by simpa [Addr.add] using hs
    subst hsp
    refine ⟨b, off, rfl, by simpa [Addr.add] using hbl, fun j hj => ?_⟩
    have := (hZ j).1 hj
    simpa only [Go.WideShapes.add_plain, Nat.add_assoc] using this
end
theorem infoGang : (Tryd.prog.info? 30).map (fun i => (i.zero, i.size, i.bytes)) = some (some (.agg #[.int .i8 0, .int .i8 0, .int .i8 0, .int .i8 0, .int .i16 0]), 5, 6) := by kernel_rfl
theorem szGangS_ok (A : Option Addr) (n cap : Nat) (L : Int) (w : World) (hL0 : 0 ≤ L) (hL : L ≤ 1048576) (hn : (n : Int) ≤ L) :
    Calls Tryd.prog 17 #[.slice A n cap, .int .i64 L] w fun e w' => e = .returned (.int .i64 (L - n)) ∧ w = w' := by
  have h1 : 0 ≤ L - (n : Int) := by omega
  go_enter Tryd.func17, Tryd.ntmps17
  go_wp2
  go_ret
  exact ⟨rfl, rfl⟩
theorem szGangS_big (A : Option Addr) (n cap : Nat) (L : Int) (w : World) (hL0 : 0 ≤ L) (hL : L ≤ 1048576) (hn : L < (n : Int)) (hm : n ≤ 9223372036854775807) :
    Calls Tryd.prog 17 #[.slice A n cap, .int .i64 L] w fun e w' => e = .returned (.int .i64 (-1)) ∧ w = w' := by
  have h1 : L - (n : Int) < 0 := by omega
  go_enter Tryd.func17, Tryd.ntmps17
  go_wp2
  go_ret
  exact ⟨rfl, rfl⟩
theorem eqGang_yes (p q s t u : Int) (w : World) : Calls Tryd.prog 56 #[.agg #[.int .i8 p, .int .i8 q, .int .i8 s, .int .i8 t, .int .i16 u], .agg #[.int .i8 p, .int .i8 q, .int .i8 s, .int .i8 t, .int .i16 u]] w fun e w' => e = .returned (.bool true) ∧ Below w.heap.size w w' := by
  go_enter Tryd.func56, Tryd.ntmps56
  go_wp2
  go_ret
  refine ⟨rfl, ?_⟩
  (repeat (first | exact Below.refl _ _ | apply Below.drew | refine Below.setCell ?_ (by first | (simp; done) | (simp; omega)) _ | refine Below.alloc ?_ (by first | (simp; done) | (simp; omega)) _))
def zeroG : Gs := ⟨fun _ => 0, fun _ => 0, fun _ => 0, fun _ => 0, fun _ => 0⟩
theorem rowIs_made5 (w : World) (n : Nat) (t : TypeId) : OwnGs (w.alloc (.cells (madeCells #[.int .i8 0, .int .i8 0, .int .i8 0, .int .i8 0, .int .i16 0] (n * 5)) t)) w.heap.size n zeroG := by
  have hr : (w.alloc (.cells (madeCells #[.int .i8 0, .int .i8 0, .int .i8 0, .int .i8 0, .int .i16 0] (n * 5)) t)).rowIs w.heap.size t (n * 5) (fun j => if j % 5 = 4 then .int .i16 0 else .int .i8 0) := by
    refine World.rowIs_alloc w _ t _ ?_ |> fun h => by rwa [size_madeCells] at h
    intro i hi
    rw [size_madeCells] at hi
    have : i % 5 = 0 ∨ i % 5 = 1 ∨ i % 5 = 2 ∨ i % 5 = 3 ∨ i % 5 = 4 := by omega
    rcases this with h | h | h | h | h <;> simp [madeCells, hi, h]
  intro j hj
  have h0 := hr.cell (i := j * 5) (by omega)
  rw [if_neg (by omega)] at h0
  have h1 := hr.cell (i := j * 5 + 1) (by omega)
  rw [if_neg (by omega)] at h1
  have h2 := hr.cell (i := j * 5 + 2) (by omega)
  rw [if_neg (by omega)] at h2
  have h3 := hr.cell (i := j * 5 + 3) (by omega)
  rw [if_neg (by omega)] at h3
  have h4 := hr.cell (i := j * 5 + 4) (by omega)
  rw [if_pos (by omega)] at h4
  exact ⟨⟨h0, h1, h2, h3, h4⟩, hr.frozen _, hr.frozen _, hr.frozen _, hr.frozen _, hr.frozen _⟩
def mixG (g : Gs) (k : Nat) : Gs := ⟨fun j => if j < k then g.p j else 0, fun j => if j < k then g.q j else 0, fun j => if j < k then g.s j else 0, fun j => if j < k then g.t j else 0, fun j => if j < k then g.u j else 0⟩
theorem toGangS_any (A : Option Addr) (n cap N : Nat) (g : Gs) (w : World) (hn : n ≤ 1048576) (hN : N ≤ w.heap.size) (hr : RdG w N A n g) :
    Calls Tryd.prog 20 #[.slice A n cap] w fun e w' => ∃ b, e = .returned (.slice (some ⟨b, 0, none⟩) n n) ∧ w.heap.size ≤ b ∧ Below w.heap.size w w' ∧ ArG w' b n g := by
  obtain ⟨i0, hi, hz0, hz1, hz2⟩ := info_parts infoGang
  have hmk := fun W => run_make_rowN (P := Tryd.prog) 43 30 i0 _ Tryd.underlying43 hi hz0 .i64 .i64 n n (Nat.le_refl _) (by rw [hz2]; omega) (by omega) W
  have HR := Lib.hid hr
  clear hr
  go_enter Tryd.func20, Tryd.ntmps20
  go_wp2
  obtain ⟨W0, hW0⟩ : ∃ W0 : World, W0 = (w.alloc (.cells (madeCells #[.int .i8 0, .int .i8 0, .int .i8 0, .int .i8 0, .int .i16 0] (n * 5)) 30)) := ⟨_, rfl⟩
  have hb0 : Below w.heap.size w W0 := by rw [hW0]; exact (Below.refl _ _).alloc (Nat.le_refl _) _
  have hg0 : w.heap.size < W0.heap.size := by rw [hW0]; simp
  have hrow0 : OwnGs W0 w.heap.size n zeroG := by rw [hW0]; exact rowIs_made5 w n _
  rw [← hW0]
  clear hW0 hmk
  go_loopw [4] (fun i wr => ∃ k : Nat, k ≤ n ∧ i = .int .i64 k ∧ Below w.heap.size w wr ∧ w.heap.size < wr.heap.size ∧ OwnGs wr w.heap.size n (mixG g k)) (fun i _ => n - (intOf i).toNat)
  case atStart => exact ⟨0, by omega, rfl, hb0, hg0, hrow0.congr (fun j _ => by simp [mixG, zeroG])⟩
  case round =>
    obtain ⟨k, hk, rfl, hb, hg, hrow⟩ := hrel
    by_cases hlt : k < n
    · obtain ⟨b, off, rfl, hbl, c0, c1, c2, c3, c4⟩ := (HR.out.below (hb.mono hN)).at hlt
      go_wp2_with (go_at_call 13; refine (toGang_any _ _ _ _ _ _).mono ?_; rintro e w1 ⟨rfl, hb1⟩; have hrow1 := hrow.of_block (hb1.block _ hg); obtain ⟨⟨d0, d1, d2, d3, d4⟩, f0, f1, f2, f3, f4⟩ := hrow1 k hlt; have hz := Nat.lt_of_lt_of_le hg hb1.size)
      go_roundw
      case rel =>
        refine ⟨k + 1, by omega, by go_num, (((((((hb.trans (hb1.mono hb.size)).setCell (Nat.le_refl _) _).setCell (Nat.le_refl _) _).setCell (Nat.le_refl _) _).setCell (Nat.le_refl _) _).setCell (Nat.le_refl _) _)), by simpa using hz, ?_⟩
        refine (hrow1.set hlt g).congr fun j hj => ?_
        unfold mixG
        by_cases e : j = k
        · subst e; simp
        · simp only [if_neg e]
          by_cases hj' : j < k
          · simp only [if_pos hj', if_pos (show j < k + 1 by omega), and_self]
          · simp only [if_neg hj', if_neg (show ¬ j < k + 1 by omega), and_self]
      case measure => simp [intOf]; omega
    · obtain rfl : k = n := by omega
      go_wp2
      go_ret
      exact ⟨_, rfl, Nat.le_refl _, hb, hg, hrow.congr (fun j hj => by simp only [mixG, if_pos hj, and_self])⟩
theorem eqGangS_any (A B : Option Addr) (n ca cb N : Nat) (g : Gs) (w : World) (hn : n ≤ 1048576) (hN : N ≤ w.heap.size) (hr : RdG w N A n g) (hs : RdG w N B n g) :
    Calls Tryd.prog 24 #[.slice A n ca, .slice B n cb] w fun e w' => e = .returned (.bool true) ∧ Below w.heap.size w w' := by
  have HR := Lib.hid hr
  have HS := Lib.hid hs
  clear hr hs
  have hnn : ((n : Int) == (n : Int)) = true := by simp
  have hnb : ((n : Int) != (n : Int)) = false := by simp
  go_enter Tryd.func24, Tryd.ntmps24
  go_wp2
  go_loopw [5] (fun i wr => ∃ k : Nat, k ≤ n ∧ i = .int .i64 k ∧ Below w.heap.size w wr) (fun i wr => n - (intOf i).toNat)
  case atStart => exact ⟨0, by omega, rfl, Below.refl _ _⟩
  case round =>
    obtain ⟨k, hk, rfl, hb⟩ := hrel
    by_cases hlt : k < n
    · obtain ⟨b, off, rfl, hbl, c0, c1, c2, c3, c4⟩ := (HR.out.below (hb.mono hN)).at hlt
      obtain ⟨b', off', rfl, hbl', d0, d1, d2, d3, d4⟩ := (HS.out.below (hb.mono hN)).at hlt
      go_wp2
      go_still_tail 8, (by kernel_rfl)
      change wpList _ _ _ _ _ wr.drew
      go_wp2_with (go_at_call 56; refine (eqGang_yes _ _ _ _ _ _).mono ?_; rintro e w1 ⟨rfl, hb1⟩)
      go_roundw
      case rel => exact ⟨k + 1, by omega, by go_num, hb.drew.trans (hb1.mono hb.size)⟩
      case measure => simp [intOf]; omega
    · obtain rfl : k = n := by omega
      go_wp2
      go_ret
      exact ⟨rfl, hb⟩
end Go.Proofs.YtfpoikeibjojgaaDoor
