/-
  Contracts of the law's helpers over slabs and squares (toSlab, toSlabS, toSquare, szSquare, eqSlab, eqSlabS, eqSquare). Conditions stand at each.
-/
import Derived.Test.YtfpoikeibjojgaaDoorRows
import Derived.Test.YtfpoikeibjojgaaDoorFrame
import Derived.WalkKit
import Derived.ProofKit
import Derived.StillTailTactics
import Derived.Deep.QuietTactic
import Derived.BigQuiet
import Derived.Deep.OwnRows
import Derived.Lib.Hide
import Derived.Deep.LoopGhost
namespace Go.Proofs.YtfpoikeibjojgaaDoor
open Go Go.ChangeShapes Go.WideShapes Go.ChangeAt Go.RowKit
set_option linter.unusedVariables false
set_option maxRecDepth 100000

theorem own : ownKnob Tryd.prog.godebug = none := by kernel_rfl
theorem laidOut : laidOutB Tryd.prog = true := by kernel_rfl

theorem run_make_rowN {P : Program} (t e : TypeId) (i : TypeInfo) (z : Value) (ht : P.underlying t = some (.slice e)) (hi : P.info? e = some i) (hz : i.zero = some z)
    (kl kc : IntKind) (n c : Nat) (hnc : n ≤ c) (hbytes : i.bytes * c ≤ 281474976710656) (h63 : c ≤ 9223372036854775807) (w : World) :
    (Instr.makeSlice t (.int kl (n : Int)) (.int kc (c : Int))).run P w = .ok (.slice (some ⟨w.heap.size, 0, none⟩) n c) (w.alloc (.cells (madeCells z.cells (c * i.size)) e)) := by
  have hb : (i.bytes : Int) * (c : Int) ≤ 281474976710656 := by
    have h : ((i.bytes * c : Nat) : Int) ≤ 281474976710656 := by omega
    rwa [Int.natCast_mul] at h
  have hr := run_make (P := P) w t e i z ht hi hz kl kc n c (by omega) (by omega) hb (by omega)
  simp only [Int.toNat_natCast] at hr
  exact hr

/-- n cells of a slice that came from anywhere below block B hold the int8s c 0, c 1, .. -/
def Rd8 (w : World) (B : Nat) (A : Option Addr) (n : Nat) (c : Nat → Int) : Prop :=
  0 < n → ∃ b off, A = some ⟨b, off, none⟩ ∧ b < B ∧ ∀ j, j < n → w.cell? ⟨b, off + j, none⟩ = some (.int .i8 (c j))

theorem Rd8.below {w w' : World} {B n : Nat} {A : Option Addr} {c : Nat → Int} (h : Rd8 w B A n c) (hb : Below B w w') : Rd8 w' B A n c := fun h0 => by
  obtain ⟨b, off, e, hl, hc⟩ := h h0
  exact ⟨b, off, e, hl, fun j hj => (hb.cell (p := ⟨b, off + j, none⟩) hl).trans (hc j hj)⟩
theorem Rd8.mono {w : World} {B B' n : Nat} {A : Option Addr} {c : Nat → Int} (h : Rd8 w B A n c) (hb : B ≤ B') : Rd8 w B' A n c := fun h0 => by
  obtain ⟨b, off, e, hl, hc⟩ := h h0
  exact ⟨b, off, e, by omega, hc⟩

theorem Rd8.at4 {w : World} {B n : Nat} {A : Option Addr} {c : Nat → Int} (h : Rd8 w B A (4 * n) c) {k : Nat} (hk : k < n) :
    ∃ b off, A = some ⟨b, off, none⟩ ∧ b < B ∧ w.cell? ⟨b, off + k * 4, none⟩ = some (.int .i8 (c (4 * k))) ∧ w.cell? ⟨b, off + k * 4 + 1, none⟩ = some (.int .i8 (c (4 * k + 1))) ∧
      w.cell? ⟨b, off + k * 4 + 2, none⟩ = some (.int .i8 (c (4 * k + 2))) ∧ w.cell? ⟨b, off + k * 4 + 3, none⟩ = some (.int .i8 (c (4 * k + 3))) := by
  obtain ⟨b, off, e, hl, hc⟩ := h (by omega)
  have c0 := hc (4 * k) (by omega)
  have c1 := hc (4 * k + 1) (by omega)
  have c2 := hc (4 * k + 2) (by omega)
  have c3 := hc (4 * k + 3) (by omega)
  rw [show off + 4 * k = off + k * 4 by omega] at c0
  rw [show off + (4 * k + 1) = off + k * 4 + 1 by omega] at c1
  rw [show off + (4 * k + 2) = off + k * 4 + 2 by omega] at c2
  rw [show off + (4 * k + 3) = off + k * 4 + 3 by omega] at c3
  exact ⟨b, off, e, hl, c0, c1, c2, c3⟩

theorem rowIs_made4 (w : World) (z : Value) (n : Nat) (t : TypeId) : (w.alloc (.cells (madeCells #[z, z, z, z] n) t)).rowIs w.heap.size t n (fun _ => z) := by
  refine World.rowIs_alloc w _ t _ ?_ |> fun h => by rwa [size_madeCells] at h
  intro i hi
  rw [size_madeCells] at hi
  have h4 : i % 4 < 4 := Nat.mod_lt _ (by decide)
  have : i % 4 = 0 ∨ i % 4 = 1 ∨ i % 4 = 2 ∨ i % 4 = 3 := by omega
  rcases this with h | h | h | h <;> simp [madeCells, hi, h]

theorem rowIs_set4 {w : World} {g : Nat} {t : TypeId} {n : Nat} {f : Nat → Value} (h : w.rowIs g t n f) (i : Nat) (v0 v1 v2 v3 : Value) :
    ((((w.setCell ⟨g, i, none⟩ v0).setCell ⟨g, i + 1, none⟩ v1).setCell ⟨g, i + 2, none⟩ v2).setCell ⟨g, i + 3, none⟩ v3).rowIs g t n
      (fun j => if j = i + 3 then v3 else if j = i + 2 then v2 else if j = i + 1 then v1 else if j = i then v0 else f j) :=
  (((h.set i v0).set (i + 1) v1).set (i + 2) v2).set (i + 3) v3

theorem rowIs_step4 {w : World} {g : Nat} {t : TypeId} {n k : Nat} {c d : Nat → Value} (h : w.rowIs g t n (fun j => if j < 4 * k then c j else d j)) :
    ((((w.setCell ⟨g, k * 4, none⟩ (c (4 * k))).setCell ⟨g, k * 4 + 1, none⟩ (c (4 * k + 1))).setCell ⟨g, k * 4 + 2, none⟩ (c (4 * k + 2))).setCell ⟨g, k * 4 + 3, none⟩ (c (4 * k + 3))).rowIs g t n
      (fun j => if j < 4 * (k + 1) then c j else d j) := by
  refine (rowIs_set4 h (k * 4) _ _ _ _).congr fun j _ => ?_
  by_cases h3 : j = k * 4 + 3
  · rw [if_pos h3, if_pos (by omega), h3]; congr 1; omega
  rw [if_neg h3]
  by_cases h2 : j = k * 4 + 2
  · rw [if_pos h2, if_pos (by omega), h2]; congr 1; omega
  rw [if_neg h2]
  by_cases h1 : j = k * 4 + 1
  · rw [if_pos h1, if_pos (by omega), h1]; congr 1; omega
  rw [if_neg h1]
  by_cases h0 : j = k * 4
  · rw [if_pos h0, if_pos (by omega), h0]; congr 1; omega
  rw [if_neg h0]
  by_cases hj : j < 4 * k
  · rw [if_pos hj, if_pos (by omega)]
  · rw [if_neg hj, if_neg (by omega)]

theorem bcell {w W1 : World} {B : Nat} (hb : Below B w W1) : (∀ b o, b < B → W1.cell? ⟨b, o, none⟩ = w.cell? ⟨b, o, none⟩) ∧ (∀ b o, b < B → W1.frozen? ⟨b, o, none⟩ = w.frozen? ⟨b, o, none⟩) :=
  ⟨fun b o h => hb.cell (p := ⟨b, o, none⟩) h, fun b o h => hb.frozen (p := ⟨b, o, none⟩) h⟩

theorem nxt {w a b : World} (h : Below w.heap.size w a) (hb : Below a.heap.size a b) : Below w.heap.size w b := h.trans (hb.mono h.size)
theorem al {w a : World} (h : Below w.heap.size w a) (o : Obj) : Below w.heap.size w (a.alloc o) := h.alloc h.size o

end Go.Proofs.YtfpoikeibjojgaaDoor
