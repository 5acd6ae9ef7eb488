/-
  Contracts of the law's helpers over slabs and squares (toSlab, toSlabS, toSquare, szSquare, eqSlab, eqSlabS, eqSquare). Conditions stand at each.
-/
import Derived.Test.YtmkcdelfgaogaaaDoorRows
import Derived.Test.YtmkcdelfgaogaaaDoorFrame
import Derived.WalkKit
import Derived.ProofKit
import Derived.StillTailTactics
import Derived.Deep.QuietTactic
import Derived.BigQuiet
import Derived.Deep.OwnRows
import Derived.Lib.Hide
import Derived.Deep.LoopGhost
namespace Go.Proofs.YtmkcdelfgaogaaaDoor
open Go Go.ChangeShapes Go.WideShapes Go.ChangeAt Go.RowKit
set_option linter.unusedVariables false
set_option maxRecDepth 100000

theorem own : ownKnob Tryd.prog.godebug = none := by kernel_rfl
theorem laidOut : laidOutB Tryd.prog = true := by kernel_rfl

theorem run_make_rowN {P : Program} (t e : TypeId) (i : TypeInfo) (z : Value) (ht : P.underlying t = some (.slice e)) (hi : P.info? e = some i) (hz : i.zero = some z)
    (kl kc : IntKind) (n c : Nat) (hnc : n ≤ c) (hbytes : i.bytes * c ≤ 281474976710656) (h63 : c ≤ 9223372036854775807) (w : World) :
    (Instr.makeSlice t (.int kl (n : Int)) (.int kc (c : Int))).run P w = .ok (.slice (some ⟨w.heap.size, 0, none⟩) n c) (w.alloc (.cells (madeCells z.cells (c * i.size)) e)) := by
  have hb : (i.bytes : Int) * (c : Int) ≤ 281474976710656 := by
    have h : ((i.bytes * c : Nat) : Int) ≤ 281474976710656 := by omega
    rwa [Int.natCast_mul] at h
  have hr := run_make (P := P) w t e i z ht hi hz kl kc n c (by omega) (by omega) hb (by omega)
  simp only [Int.toNat_natCast] at hr
  exact hr

/-- n cells of a slice that came from anywhere below block B hold the int8s c 0, c 1, .. -/
def Rd8 (w : World) (B : Nat) (A : Option Addr) (n : Nat) (c : Nat → Int) : Prop :=
  0 < n → ∃ b off, A = some ⟨b, off, none⟩ ∧ b < B ∧ ∀ j, j < n → w.cell? ⟨b, off + j, none⟩ = some (.int .i8 (c j))

theorem Rd8.below {w w' : World} {B n : Nat} {A : Option Addr} {c : Nat → Int} (h : Rd8 w B A n c) (hb : Below B w w') : Rd8 w' B A n c := fun h0 => by
  obtain ⟨b, off, e, hl, hc⟩ := h h0
  exact ⟨b, off, e, hl, fun j hj => (hb.cell (p := ⟨b, off + j, none⟩) hl).trans (hc j hj)⟩
theorem Rd8.mono {w : World} {B B' n : Nat} {A : Option Addr} {c : Nat → Int} (h : Rd8 w B A n c) (hb : B ≤ B') : Rd8 w B' A n c := fun h0 => by
  obtain ⟨b, off, e, hl, hc⟩ := h h0
  exact ⟨b, off, e, by omega, hc⟩

theorem Rd8.at4 {w : World} {B n : Nat} {A : Option Addr} {c : Nat → Int} (h : Rd8 w B A (4 * n) c) {k : Nat} (hk : k < n) :
    ∃ b off, A = some ⟨b, off, none⟩ ∧ b < B ∧ w.cell? ⟨b, off + k * 4, none⟩ = some (.int .i8 (c (4 * k))) ∧ w.cell? ⟨b, off + k * 4 + 1, none⟩ = some (.int .i8 (c (4 * k + 1))) ∧
      w.cell? ⟨b, off + k * 4 + 2, none⟩ = some (.int .i8 (c (4 * k + 2))) ∧ w.cell? ⟨b, off + k * 4 + 3, none⟩ = some (.int .i8 (c (4 * k + 3))) := by
  obtain ⟨b, off, e, hl, hc⟩ := h (by omega)
  have c0 := hc (4 * k) (by omega)
  have c1 := hc (4 * k + 1) (by omega)
  have c2 := hc (4 * k + 2) (by omega)
  have c3 := hc (4 * k + 3) (by omega)
  rw [show off + 4 * k = off + k * 4 by omega] at c0
  rw [show off + (4 * k + 1) = off + k * 4 + 1 by omega] at c1
  rw [show off + (4 * k + 2) = off + k * 4 + 2 by omega] at c2
  rw [show off + (4 * k + 3) = off + k * 4 + 3 by omega] at c3
  exact ⟨b, off, e, hl, c0, c1, c2, c3⟩

theorem rowIs_made4 (w : World) (z : Value) (n : Nat) (t : TypeId) : (w.alloc (.cells (madeCells #[z, z, z, z] n) t)).rowIs w.heap.size t n (fun _ => z) := by
  refine World.rowIs_alloc w _ t _ ?_ |> fun h => by rwa [size_madeCells] at h
  intro i hi
  rw [size_madeCells] at hi
  have h4 : i % 4 < 4 := Nat.mod_lt _ (by decide)
  have : i % 4 = 0 ∨ i % 4 = 1 ∨ i % 4 = 2 ∨ i % 4 = 3 := by omega
  rcases this with h | h | h | h <;> simp [madeCells, hi, h]

theorem rowIs_set4 {w : World} {g : Nat} {t : TypeId} {n : Nat} {f : Nat → Value} (h : w.rowIs g t n f) (i : Nat) (v0 v1 v2 v3 : Value) :
    ((((w.setCell ⟨g, i, none⟩ v0).setCell ⟨g, i + 1, none⟩ v1).setCell ⟨g, i + 2, none⟩ v2).setCell ⟨g, i + 3, none⟩ v3).rowIs g t n
      (fun j => if j = i + 3 then v3 else if j = i + 2 then v2 else if j = i + 1 then v1 else if j = i then v0 else f j) :=
  (((h.set i v0).set (i + 1) v1).set (i + 2) v2).set (i + 3) v3

theorem rowIs_step4 {w : World} {g : Nat} {t : TypeId} {n k : Nat} {c d : Nat → Value} (h : w.rowIs g t n (fun j => if j < 4 * k then c j else d j)) :
    ((((w.setCell ⟨g, k * 4, none⟩ (c (4 * k))).setCell ⟨g, k * 4 + 1, none⟩ (c (4 * k + 1))).setCell ⟨g, k * 4 + 2, none⟩ (c (4 * k + 2))).setCell ⟨g, k * 4 + 3, none⟩ (c (4 * k + 3))).rowIs g t n
      (fun j => if j < 4 * (k + 1) then c j else d j) := by
  refine (rowIs_set4 h (k * 4) _ _ _ _).congr fun j _ => ?_
  by_cases h3 : j = k * 4 + 3
  · rw [if_pos h3, if_pos (by omega), h3]; congr 1; omega
  rw [if_neg h3]
  by_cases h2 : j = k * 4 + 2
  · rw [if_pos h2, if_pos (by omega), h2]; congr 1; omega
  rw [if_neg h2]
  by_cases h1 : j = k * 4 + 1
  · rw [if_pos h1, if_pos (by omega), h1]; congr 1; omega
  rw [if_neg h1]
  by_cases h0 : j = k * 4
  · rw [if_pos h0, if_pos (by omega), h0]; congr 1; omega
  rw [if_neg h0]
  by_cases hj : j < 4 * k
  · rw [if_pos hj, if_pos (by omega)]
  · rw [if_neg hj, if_neg (by omega)]

set_option maxHeartbeats 400000 in
theorem toSlab_any (x y z u : Int) (w : World) : Calls Tryd.prog 54 #[.agg #[.int .i8 x, .int .i8 y, .int .i8 z, .int .i8 u]] w fun e w' => e = .returned (.agg #[.int .i8 x, .int .i8 y, .int .i8 z, .int .i8 u]) ∧ Below w.heap.size w w' := by
  go_enter Tryd.func54, Tryd.ntmps54
  go_wp2
  refine bodyPost_ret (v := .agg #[.int .i8 x, .int .i8 y, .int .i8 z, .int .i8 u]) (by simp [results, Tryd.results54, go_sem]) rfl ⟨rfl, ?_⟩
  (repeat (first | exact Below.refl _ _ | apply Below.drew | refine Below.setCell ?_ (by first | (simp; done) | (simp; omega)) _ | refine Below.alloc ?_ (by first | (simp; done) | (simp; omega)) _))

set_option maxHeartbeats 400000 in
theorem eqSlab_yes (x y z u : Int) (w : World) : Calls Tryd.prog 60 #[.agg #[.int .i8 x, .int .i8 y, .int .i8 z, .int .i8 u], .agg #[.int .i8 x, .int .i8 y, .int .i8 z, .int .i8 u]] w fun e w' => e = .returned (.bool true) ∧ Below w.heap.size w w' := by
  go_enter Tryd.func60, Tryd.ntmps60
  go_wp2
  go_ret
  refine ⟨rfl, ?_⟩
  (repeat (first | exact Below.refl _ _ | apply Below.drew | refine Below.setCell ?_ (by first | (simp; done) | (simp; omega)) _ | refine Below.alloc ?_ (by first | (simp; done) | (simp; omega)) _))

theorem bcell {w W1 : World} {B : Nat} (hb : Below B w W1) : (∀ b o, b < B → W1.cell? ⟨b, o, none⟩ = w.cell? ⟨b, o, none⟩) ∧ (∀ b o, b < B → W1.frozen? ⟨b, o, none⟩ = w.frozen? ⟨b, o, none⟩) :=
  ⟨fun b o h => hb.cell (p := ⟨b, o, none⟩) h, fun b o h => hb.frozen (p := ⟨b, o, none⟩) h⟩

theorem nxt {w a b : World} (h : Below w.heap.size w a) (hb : Below a.heap.size a b) : Below w.heap.size w b := h.trans (hb.mono h.size)
theorem al {w a : World} (h : Below w.heap.size w a) (o : Obj) : Below w.heap.size w (a.alloc o) := h.alloc h.size o

theorem infoSlab : (Tryd.prog.info? 105).map (fun i => (i.zero, i.size, i.bytes)) = some (some (.agg #[.int .i8 0, .int .i8 0, .int .i8 0, .int .i8 0]), 4, 4) := by kernel_rfl

set_option maxRecDepth 100000 in
set_option maxHeartbeats 400000 in
theorem toSlabS_any (A : Option Addr) (n cap : Nat) (c : Nat → Int) (w : World) (hn : n ≤ 1048576) (hr : Rd8 w w.heap.size A (4 * n) c) :
    Calls Tryd.prog 33 #[.slice A n cap] w fun e w' => ∃ g, e = .returned (.slice (some ⟨g, 0, none⟩) n n) ∧ w.heap.size ≤ g ∧ Below w.heap.size w w' ∧ w'.rowIs g 105 (4 * n) (fun j => .int .i8 (c j)) := by
  obtain ⟨i0, hi, hz0, hz1, hz2⟩ := info_parts infoSlab
  have hmk := fun W => run_make_rowN (P := Tryd.prog) 31 105 i0 _ Tryd.underlying31 hi hz0 .i64 .i64 n n (Nat.le_refl _) (by rw [hz2]; omega) (by omega) W
  go_enter Tryd.func33, Tryd.ntmps33
  go_wp2
  obtain ⟨W0, hW0⟩ : ∃ W0 : World, W0 = (w.alloc (.cells (madeCells #[.int .i8 0, .int .i8 0, .int .i8 0, .int .i8 0] (n * 4)) 105)) := ⟨_, rfl⟩
  have hb0 : Below w.heap.size w W0 := by rw [hW0]; exact (Below.refl _ _).alloc (Nat.le_refl _) _
  have hrow0 : W0.rowIs w.heap.size 105 (4 * n) (fun _ => .int .i8 0) := by rw [hW0, show 4 * n = n * 4 by omega]; exact rowIs_made4 w _ _ _
  rw [← hW0]
  clear hW0 hmk
  go_loopw [4] (fun i wr => ∃ k : Nat, k ≤ n ∧ i = .int .i64 k ∧ Below w.heap.size w wr ∧ wr.rowIs w.heap.size 105 (4 * n) (fun j => if j < 4 * k then .int .i8 (c j) else .int .i8 0)) (fun i _ => n - (intOf i).toNat)
  case atStart => exact ⟨0, by omega, rfl, hb0, hrow0⟩
  case round =>
    obtain ⟨k, hk, rfl, hb, hrow⟩ := hrel
    by_cases hlt : k < n
    · obtain ⟨b, off, rfl, hbl, c0, c1, c2, c3⟩ := (hr.below hb).at4 hlt
      go_wp2_with (go_at_call 54; refine (toSlab_any _ _ _ _ _).mono ?_; rintro e w1 ⟨rfl, hb1⟩; have hrow1 := hrow.of_block (hb1.block _ hrow.lt); have d0 := hrow1.cell (i := k * 4) (by omega); have d1 := hrow1.cell (i := k * 4 + 1) (by omega); have d2 := hrow1.cell (i := k * 4 + 2) (by omega); have d3 := hrow1.cell (i := k * 4 + 3) (by omega); have f0 := hrow1.frozen (k * 4); have f1 := hrow1.frozen (k * 4 + 1); have f2 := hrow1.frozen (k * 4 + 2); have f3 := hrow1.frozen (k * 4 + 3))
      go_roundw
      case rel => exact ⟨k + 1, by omega, by go_num, (((((hb.trans (hb1.mono hb.size)).setCell (Nat.le_refl _) _).setCell (Nat.le_refl _) _).setCell (Nat.le_refl _) _).setCell (Nat.le_refl _) _), rowIs_step4 (c := fun j => .int .i8 (c j)) (d := fun _ => .int .i8 0) hrow1⟩
      case measure => simp [intOf]; omega
    · obtain rfl : k = n := by omega
      go_wp2
      go_ret
      exact ⟨_, rfl, Nat.le_refl _, hb, hrow.congr (fun j hj => by rw [if_pos hj])⟩

/-- two slices of slabs, compared cell by cell. -/
theorem eqSlabS_any (A B : Option Addr) (n m ca cb N : Nat) (c d : Nat → Int) (w : World) (hn : n ≤ 1048576) (hm : m ≤ 1048576) (hN : N ≤ w.heap.size) (hr : Rd8 w N A (4 * n) c) (hs : Rd8 w N B (4 * m) d) (heq : n = m ∧ ∀ j, j < 4 * n → c j = d j) :
    Calls Tryd.prog 37 #[.slice A n ca, .slice B m cb] w fun e w' => e = .returned (.bool true) ∧ Below w.heap.size w w' := by
  obtain ⟨rfl, hcd⟩ := heq
  have HC : Hid (∀ j, j < 4 * n → c j = d j) := hcd
  clear hcd
  have hnn : ((n : Int) == (n : Int)) = true := by simp
  have hnb : ((n : Int) != (n : Int)) = false := by simp
  go_enter Tryd.func37, Tryd.ntmps37
  go_wp2
  go_loopw [5] (fun i wr => ∃ k : Nat, k ≤ n ∧ i = .int .i64 k ∧ Below w.heap.size w wr) (fun i wr => n - (intOf i).toNat)
  case atStart => exact ⟨0, by omega, rfl, Below.refl _ _⟩
  case round =>
    obtain ⟨k, hk, rfl, hb⟩ := hrel
    by_cases hlt : k < n
    · obtain ⟨b, off, rfl, hbl, c0, c1, c2, c3⟩ := (hr.below (hb.mono hN)).at4 hlt
      obtain ⟨b', off', rfl, hbl', d0, d1, d2, d3⟩ := (hs.below (hb.mono hN)).at4 hlt
      rw [← HC.out _ (by omega)] at d0 d1 d2 d3
      go_wp2
      go_still_tail 8, (by kernel_rfl)
      change wpList _ _ _ _ _ wr.drew
      go_wp2_with (go_at_call 60; refine (eqSlab_yes _ _ _ _ _).mono ?_; rintro e w1 ⟨rfl, hb1⟩)
      go_roundw
      case rel => exact ⟨k + 1, by omega, by go_num, hb.drew.trans (hb1.mono hb.size)⟩
      case measure => simp [intOf]; omega
    · obtain rfl : k = n := by omega
      go_wp2
      go_ret
      exact ⟨rfl, hb⟩

theorem szSquare_ok (x y L : Int) (A : Option Addr) (n cap : Nat) (w : World) (hL0 : 0 ≤ L) (hL : L ≤ 1048576) (hn : (n : Int) ≤ L) :
    Calls Tryd.prog 8 #[.agg #[.int .i8 x, .int .i8 y, .slice A n cap], .int .i64 L] w fun e w' => e = .returned (.int .i64 (L - n)) ∧ Below w.heap.size w w' := by
  have h1 : 0 ≤ L - (n : Int) := by omega
  go_enter Tryd.func8, Tryd.ntmps8
  go_wp2
  go_ret
  refine ⟨rfl, ?_⟩
  (repeat (first | exact Below.refl _ _ | apply Below.drew | refine Below.setCell ?_ (by first | (simp; done) | (simp; omega)) _ | refine Below.alloc ?_ (by first | (simp; done) | (simp; omega)) _))

theorem szSquare_big (x y L : Int) (A : Option Addr) (n cap : Nat) (w : World) (hL0 : 0 ≤ L) (hL : L ≤ 1048576) (hn : L < (n : Int)) (hm : n ≤ 9223372036854775807) :
    Calls Tryd.prog 8 #[.agg #[.int .i8 x, .int .i8 y, .slice A n cap], .int .i64 L] w fun e w' => e = .returned (.int .i64 (-1)) ∧ Below w.heap.size w w' := by
  have h1 : L - (n : Int) < 0 := by omega
  go_enter Tryd.func8, Tryd.ntmps8
  go_wp2
  go_ret
  refine ⟨rfl, ?_⟩
  (repeat (first | exact Below.refl _ _ | apply Below.drew | refine Below.setCell ?_ (by first | (simp; done) | (simp; omega)) _ | refine Below.alloc ?_ (by first | (simp; done) | (simp; omega)) _))

theorem toSquare_any (x y : Int) (A : Option Addr) (n cap N : Nat) (c : Nat → Int) (w : World) (hn : n ≤ 1048576) (hN : N ≤ w.heap.size) (hr : Rd8 w N A (4 * n) c) :
    Calls Tryd.prog 10 #[.agg #[.int .i8 x, .int .i8 y, .slice A n cap]] w fun e w' => ∃ g, e = .returned (.agg #[.int .i8 x, .int .i8 y, .slice (some ⟨g, 0, none⟩) n n]) ∧ w.heap.size ≤ g ∧ Below w.heap.size w w' ∧ w'.rowIs g 105 (4 * n) (fun j => .int .i8 (c j)) := by
  have hr0 := hr.mono hN
  have HR : ∀ W' : World, Below w.heap.size w W' → Rd8 W' W'.heap.size A (4 * n) c := fun W' h => (hr0.below h).mono h.size
  have HRh := Lib.hid HR
  clear HR hr hr0
  go_enter Tryd.func10, Tryd.ntmps10
  go_wp2_with fail
  refine (toSlabS_any A n cap c _ hn (HRh.out _ ?_)).mono ?_
  · (repeat (first | exact Below.refl _ _ | apply Below.drew | refine Below.setCell ?_ (by first | (simp; done) | (simp; omega)) _ | refine Below.alloc ?_ (by first | (simp; done) | (simp; omega)) _))
  rintro e w1 ⟨g, rfl, hg, hb1, hrow⟩
  obtain ⟨hc1, hf1⟩ := bcell hb1
  have hz : w.heap.size + 3 ≤ w1.heap.size := by have := hb1.size; simp at this; omega
  have hgl := hrow.lt
  have hB : Below w.heap.size w w1 := (((Below.refl _ w).alloc (Nat.le_refl _) _).alloc (by simp) _ |>.alloc (by simp; omega) _).trans (hb1.mono (by simp; omega))
  simp only [World.size_alloc] at hg hc1 hf1
  go_wp2
  refine bodyPost_ret (v := .agg #[.int .i8 x, .int .i8 y, .slice (some ⟨g, 0, none⟩) n n]) (by simp [results, Tryd.results10, go_sem, hc1]) rfl ⟨g, rfl, by omega, ?_, ?_⟩
  · exact (((hB.setCell (by simp; omega) _).setCell (by simp) _).setCell (by simp) _).setCell (by simp) _
  · exact (((hrow.setOther (by simp; omega) _).setOther (by simp; omega) _).setOther (by simp; omega) _).setOther (by simp; omega) _

theorem eqSquare_yes (x y : Int) (A B : Option Addr) (n m ca cb N : Nat) (c d : Nat → Int) (w : World) (hn : n ≤ 1048576) (hm : m ≤ 1048576) (hN : N ≤ w.heap.size) (hr : Rd8 w N A (4 * n) c) (hs : Rd8 w N B (4 * m) d) (heq : n = m ∧ ∀ j, j < 4 * n → c j = d j) :
    Calls Tryd.prog 13 #[.agg #[.int .i8 x, .int .i8 y, .slice A n ca], .agg #[.int .i8 x, .int .i8 y, .slice B m cb]] w fun e w' => e = .returned (.bool true) ∧ Below w.heap.size w w' := by
  have HR : ∀ W' : World, Below w.heap.size w W' → Rd8 W' N A (4 * n) c ∧ Rd8 W' N B (4 * m) d ∧ N ≤ W'.heap.size := fun W' h => ⟨hr.below (h.mono hN), hs.below (h.mono hN), Nat.le_trans hN h.size⟩
  have HRh := Lib.hid HR
  have HE := Lib.hid heq
  clear HR hr hs heq
  go_enter Tryd.func13, Tryd.ntmps13
  go_wp2_with fail
  have hB : Below w.heap.size w ((w.alloc (Obj.cells #[.int .i8 x, .int .i8 y, .slice A n ca] 33)).alloc (Obj.cells #[.int .i8 x, .int .i8 y, .slice B m cb] 33)) := by
    (repeat (first | exact Below.refl _ _ | apply Below.drew | refine Below.setCell ?_ (by first | (simp; done) | (simp; omega)) _ | refine Below.alloc ?_ (by first | (simp; done) | (simp; omega)) _))
  refine (eqSlabS_any A B n m ca cb N c d _ hn hm (HRh.out _ hB).2.2 (HRh.out _ hB).1 (HRh.out _ hB).2.1 HE.out).mono ?_
  rintro e w1 ⟨rfl, hb1⟩
  have hB1 := hB.trans (hb1.mono hB.size)
  go_wp2
  go_ret
  exact ⟨rfl, hB1⟩
end Go.Proofs.YtmkcdelfgaogaaaDoor
