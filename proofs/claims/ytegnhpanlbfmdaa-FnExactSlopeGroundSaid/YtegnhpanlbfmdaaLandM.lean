/-
  The gullies of a land: a map by points; the key of a point, and what the map says. Conditions stand at each.
-/
import Derived.Test.YtegnhpanlbfmdaaRows
import Derived.Test.YtegnhpanlbfmdaaGndT
import Derived.Maps.OwnSet
import Derived.Maps.OwnIn
import Derived.Maps.Views
import Derived.DeepKeys4
import Derived.WideKeyPair
import Derived.Great.FillDense
import Derived.Laws.Tables
namespace Go.Proofs.Ytegnhpanlbfmdaa
open Go Go.ChangeShapes Go.WideShapes Go.ChangeAt Go.RowKit
open Go.Maps (Keyed)
set_option linter.unusedVariables false
set_option linter.unusedSimpArgs false
set_option maxRecDepth 100000

theorem w8 {n : Int} (h : -128 ≤ n ∧ n ≤ 127) : (Lit.int .i8 n).wf = true := by
  have hmin : IntKind.i8.min = -128 := rfl
  have hmax : IntKind.i8.max = 127 := rfl
  simp only [Lit.wf, Bool.and_eq_true, decide_eq_true_eq]
  omega
/-- a point's key. -/
def keyL (a b : Int) : Lit := .string (keyBytes [.int .i8 a, .int .i8 b])
theorem keyed_cell : Keyed Try.prog 40 := Keyed.of_law (deep_law_laid laidOut (m := 2) (by omega) (by decide +kernel) (by kernel_rfl) (by simp only [Try.underlying40]))
theorem keyType_cell : Try.prog.keyType 40 = true := by kernel_rfl
theorem cellsOf_cell : Try.prog.cellsOf 40 = 2 := by kernel_rfl
theorem cellsOf_i8 : Try.prog.cellsOf 22 = 1 := by kernel_rfl
theorem typesN : ∃ m, Try.prog.types.size = m + 1 := by
  have h : 0 < Try.prog.types.size := by decide +kernel
  exact Nat.exists_eq_succ_of_ne_zero (by omega)
theorem keyOf_cell {a b : Int} (wa : -128 ≤ a ∧ a ≤ 127) (wb : -128 ≤ b ∧ b ≤ 127) : keyOf Try.prog 40 (.agg #[.int .i8 a, .int .i8 b]) = some (keyL a b) := by
  have h1 : (Lit.int .i8 a).wf = true := w8 wa
  have h2 : (Lit.int .i8 b).wf = true := w8 wb
  obtain ⟨m, hm⟩ := typesN
  unfold keyOf
  simp only [Try.underlying40]
  rw [if_pos (by simp [keyType_cell, Value.formed, Try.underlying40, cellsOf_cell]), hm]
  unfold Program.keyLits
  simp only [Try.underlying40, Value.cells]
  rw [if_pos (by simp [cellsOf_cell])]
  simp [Program.keyLits, Try.underlying22, cellsOf_i8, h1, h2, keyL]
theorem keyL_inj {a b a' b' : Int} (wa : -128 ≤ a ∧ a ≤ 127) (wb : -128 ≤ b ∧ b ≤ 127) (wa' : -128 ≤ a' ∧ a' ≤ 127) (wb' : -128 ≤ b' ∧ b' ≤ 127) (h : keyL a b = keyL a' b') : a = a' ∧ b = b' := by
  have := keyed_cell.inj (keyOf_cell wa wb) (by rw [h]; exact keyOf_cell wa' wb')
  injection this with this
  simp at this
  exact this
theorem keyL_is (a b : Int) : WideAt.IsKeyLit (keyL a b) := trivial

/-- the indices of n points, by the points. -/
def glD (c : Nat → Int) : Nat → DataW Unit
  | 0 => .map []
  | n + 1 => (glD c n).put (keyL (c (2 * n)) (c (2 * n + 1))) (.lit (.int .i64 (n : Int)))
theorem glD_isMap (c : Nat → Int) : ∀ n, Maps.IsMap (glD c n)
  | 0 => Maps.isMap_empty
  | n + 1 => (glD_isMap c n).put _ _
def gSame (c : Nat → Int) (a b : Int) (i : Nat) : Prop := c (2 * i) = a ∧ c (2 * i + 1) = b
theorem glD_none {c : Nat → Int} (hc : ∀ j, -128 ≤ c j ∧ c j ≤ 127) {a b : Int} (wa : -128 ≤ a ∧ a ≤ 127) (wb : -128 ≤ b ∧ b ≤ 127) : ∀ n, (∀ i, i < n → ¬ gSame c a b i) → Maps.has (glD c n) (keyL a b) = false ∧ (glD c n).atKey (keyL a b) (.lit (.int .i64 0)) = .lit (.int .i64 0)
  | 0, _ => ⟨rfl, rfl⟩
  | n + 1, h => by
    unfold glD
    have hne : keyL a b ≠ keyL (c (2 * n)) (c (2 * n + 1)) := fun e => h n (by omega) (by have := keyL_inj wa wb (hc _) (hc _) e; exact ⟨this.1.symm, this.2.symm⟩)
    rw [Maps.has_put_other hne, Maps.atKey_put_other hne]
    exact glD_none hc wa wb n fun i hi => h i (by omega)
theorem glD_at {c : Nat → Int} (hc : ∀ j, -128 ≤ c j ∧ c j ≤ 127) {a b : Int} (wa : -128 ≤ a ∧ a ≤ 127) (wb : -128 ≤ b ∧ b ≤ 127) {i : Nat} : ∀ n, i < n → gSame c a b i → (∀ j, j < n → gSame c a b j → j = i) →
    Maps.has (glD c n) (keyL a b) = true ∧ (glD c n).atKey (keyL a b) (.lit (.int .i64 0)) = .lit (.int .i64 (i : Int))
  | 0, h, _, _ => absurd h (by omega)
  | n + 1, h, hs, hu => by
    unfold glD
    by_cases e : i = n
    · subst e
      obtain ⟨h1, h2⟩ := hs
      rw [h1, h2]
      exact ⟨Maps.has_put_same (glD_isMap c i) (keyL_is _ _) _, Maps.atKey_put_same (glD_isMap c i) (keyL_is _ _) _ _⟩
    · have hne : keyL a b ≠ keyL (c (2 * n)) (c (2 * n + 1)) := fun e' => by
        have := keyL_inj wa wb (hc _) (hc _) e'
        exact e (hu n (by omega) ⟨this.1.symm, this.2.symm⟩).symm
      rw [Maps.has_put_other hne, Maps.atKey_put_other hne]
      exact glD_at hc wa wb n (by omega) hs fun j hj => hu j (by omega)

/-- the map m of a land holds n gullies. -/
def GMap (W : World) (m n : Nat) (c : Nat → Int) : Prop := W.ownsMap Try.prog 40 (plainElem (H := Unit) Try.prog 2) m n (glD c n)
theorem GMap.lt {W : World} {m n : Nat} {c : Nat → Int} (h : GMap W m n c) : m < W.heap.size := World.ownsMap.lt h
theorem GMap.below {W W' : World} {m n N : Nat} {c : Nat → Int} (h : GMap W m n c) (hb : Below N W W') (hs : m < N) : GMap W' m n c := by
  obtain ⟨es, ck, h1, r⟩ := h
  exact ⟨es, ck, (hb.block _ hs).trans h1, r⟩
theorem GMap.of_block {W W' : World} {m n : Nat} {c : Nat → Int} (h : GMap W m n c) (hb : W'.heap[m]? = W.heap[m]?) : GMap W' m n c := by
  obtain ⟨es, ck, h1, r⟩ := h
  exact ⟨es, ck, hb.trans h1, r⟩
theorem GMap.drew {W : World} {m n : Nat} {c : Nat → Int} (h : GMap W m n c) : GMap W.drew m n c := h
/-- what 'index, is := gullies[point]' answers: no gully. -/
theorem GMap.look_no {W : World} {m n : Nat} {c : Nat → Int} (h : GMap W m n c) (hc : ∀ j, -128 ≤ c j ∧ c j ≤ 127) {a b : Int} (wa : -128 ≤ a ∧ a ≤ 127) (wb : -128 ≤ b ∧ b ≤ 127) (hn : ∀ i, i < n → ¬ gSame c a b i) :
    (Instr.lookup 151 (.map (some m)) (.agg #[.int .i8 a, .int .i8 b]) true).run Try.prog W = .ok (.tuple #[.int .i64 0, .bool false]) W := by
  obtain ⟨v, ps, hrun, hv⟩ := World.ownsMap.look_ok h keyed_cell Try.underlying151 (z := .int .i64 0) (Try.zeroValue2 W) (zd := .lit (.int .i64 0)) (zp := []) (plainElem_int Try.underlying2 (by decide)) (keyOf_cell wa wb)
  obtain ⟨h1, h2⟩ := glD_none hc wa wb n hn
  rw [h1] at hrun
  obtain ⟨x, rfl, hx, _⟩ := plainElem_int_inv Try.underlying2 hv
  rw [h2] at hx
  have hx := congrArg Prod.fst hx
  injection hx with hx
  injection hx with _ hx
  rw [← hx] at hrun
  exact hrun
/-- .. gully number i. -/
theorem GMap.look_yes {W : World} {m n : Nat} {c : Nat → Int} (h : GMap W m n c) (hc : ∀ j, -128 ≤ c j ∧ c j ≤ 127) {a b : Int} (wa : -128 ≤ a ∧ a ≤ 127) (wb : -128 ≤ b ∧ b ≤ 127) {i : Nat} (hi : i < n) (hs : gSame c a b i) (hu : ∀ j, j < n → gSame c a b j → j = i) :
    (Instr.lookup 151 (.map (some m)) (.agg #[.int .i8 a, .int .i8 b]) true).run Try.prog W = .ok (.tuple #[.int .i64 (i : Int), .bool true]) W := by
  obtain ⟨v, ps, hrun, hv⟩ := World.ownsMap.look_ok h keyed_cell Try.underlying151 (z := .int .i64 0) (Try.zeroValue2 W) (zd := .lit (.int .i64 0)) (zp := []) (plainElem_int Try.underlying2 (by decide)) (keyOf_cell wa wb)
  obtain ⟨h1, h2⟩ := glD_at hc wa wb n hi hs hu
  rw [h1] at hrun
  obtain ⟨x, rfl, hx, _⟩ := plainElem_int_inv Try.underlying2 hv
  rw [h2] at hx
  have hx := congrArg Prod.fst hx
  injection hx with hx
  injection hx with _ hx
  rw [← hx] at hrun
  exact hrun

theorem fill_step {place : Nat → Option (Nat × Nat)} {cells : Array Value} {i off size : Nat} {v : Value} {rest : List (Nat × Value)} (hp : place i = some (off, size)) (hs : v.cells.size = size) (hf : off + size ≤ cells.size) :
    ∃ r : Array Value, Instr.fill place cells ((i, v) :: rest) = Instr.fill place r rest ∧ r.size = cells.size ∧ ∀ k, r[k]? = if off ≤ k ∧ k < off + size then v.cells[k - off]? else cells[k]? := by
  obtain ⟨g1, g2⟩ := Great.foldl_set off v.cells.toList 0 cells
  refine ⟨_, ?_, g1, fun k => ?_⟩
  · conv => lhs; unfold Instr.fill
    simp only [hp]
    rw [if_neg (by simp; omega)]
    congr 1
    rw [← Array.foldl_toList]
    simp
  · rw [g2 k]
    simp only [Array.length_toList, Nat.add_zero, hs]
    by_cases h : off ≤ k ∧ k < off + size
    · rw [if_pos h, if_pos ⟨h.1, h.2, by omega⟩]; simp
    · rw [if_neg h, if_neg (by omega)]
theorem built_struct {P : Program} {t : TypeId} {fs : Array Field} {places : List (Nat × Nat)} {it : TypeInfo} {z : Value} (hi : P.info? t = some it) (hu : P.underlying t = some (.struct fs)) (hz : it.zero = some z)
    (hp : fs.toList.mapM (fun f => (P.info? f.type).map fun i => (f.offset, i.size)) = some places) (parts : List (Nat × Value)) : P.built t parts = Instr.fill (places.toArray[·]?) z.cells parts := by
  unfold Program.built
  simp only [hi, hu, hz, hp]
theorem yields_build {P : Program} {ops : Array Oper} {S : World → Prop} {op : Oper} {a : Act} (hw : Region.wanted op (yielded ops a.tmps) = true) (t : TypeId) (parts : Array (Nat × Operand)) (ho : op.op = .build t parts) (cells : Array Value)
    {L : List (Nat × Value)} (hf : P.built t L = some cells) (hL : (parts.map fun (i, x) => (i, a.eval x)).toList = L) : YieldsIf P ops S op (.agg cells) a := by
  subst hL
  refine Or.inl ⟨hw, fun w _ => ?_⟩
  unfold execOp
  simp only [ho, Sem.run_bind, run_build w t _ cells hf, Result.andThen_ok]
  rfl

theorem land_zero : ∃ (it : TypeInfo) (z : Value), Try.prog.info? 153 = some it ∧ it.zero = some z ∧ z.cells.size = 84 := by
  have h : ((Try.prog.info? 153).bind (·.zero)).map (·.cells.size) = some 84 := by kernel_rfl
  cases hi : Try.prog.info? 153 with
  | none => simp [hi] at h
  | some it =>
    cases hz : it.zero with
    | none => simp [hi, hz] at h
    | some z => exact ⟨it, z, rfl, hz, by simpa [hi, hz] using h⟩
theorem land_places : ∃ fs, Try.prog.underlying 153 = some (.struct fs) ∧ fs.toList.mapM (fun f => (Try.prog.info? f.type).map fun i => (f.offset, i.size)) = some [(0, 2), (2, 81), (83, 1)] :=
  ⟨_, Try.underlying153, by kernel_rfl⟩
theorem built_land (X Y : Int) (h : Nat → Int) (m : Value) (hm : m.cells = #[m]) : Try.prog.built 153 [(0, .agg #[.int .i8 X, .int .i8 Y]), (1, .agg (hV h)), (2, m)] = some (gV X Y h m) := by
  obtain ⟨it, z, hi, hz, hs⟩ := land_zero
  obtain ⟨fs, hu, hp⟩ := land_places
  rw [built_struct hi hu hz hp]
  obtain ⟨r1, e1, s1, g1⟩ := fill_step (place := (([(0, 2), (2, 81), (83, 1)] : List (Nat × Nat)).toArray[·]?)) (cells := z.cells) (i := 0) (off := 0) (size := 2) (v := .agg #[.int .i8 X, .int .i8 Y]) (rest := [(1, .agg (hV h)), (2, m)]) rfl rfl (by omega)
  obtain ⟨r2, e2, s2, g2⟩ := fill_step (place := (([(0, 2), (2, 81), (83, 1)] : List (Nat × Nat)).toArray[·]?)) (cells := r1) (i := 1) (off := 2) (size := 81) (v := .agg (hV h)) (rest := [(2, m)]) rfl (hV_size h) (by omega)
  obtain ⟨r3, e3, s3, g3⟩ := fill_step (place := (([(0, 2), (2, 81), (83, 1)] : List (Nat × Nat)).toArray[·]?)) (cells := r2) (i := 2) (off := 83) (size := 1) (v := m) (rest := []) rfl (by rw [hm]; rfl) (by omega)
  rw [e1, e2, e3]
  show some r3 = _
  congr 1
  refine gV_of X Y h m (by omega) ?_ ?_ (fun p hp => ?_) ?_
  · rw [g3, if_neg (by omega), g2, if_neg (by omega), g1, if_pos (by omega)]; rfl
  · rw [g3, if_neg (by omega), g2, if_neg (by omega), g1, if_pos (by omega)]; rfl
  · rw [g3, if_neg (by omega), g2, if_pos (by omega), show 2 + p - 2 = p by omega]; exact hV_get h hp
  · rw [g3, if_pos (by omega), hm]; rfl
end Go.Proofs.Ytegnhpanlbfmdaa
