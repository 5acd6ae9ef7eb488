/-
  Arrays of ints by value, whole and in part: as values, in boxes, loaded and stored. Conditions stand at each.
-/
import Derived.Test.YtmkcdelfgaogaaaDoorRows
import Derived.Test.YtmkcdelfgaogaaaDoorRet
import Derived.Deep.MidRow
import Derived.Deep.WholeRow
namespace Go.Proofs.YtmkcdelfgaogaaaDoor
open Go Go.ChangeShapes Go.WideShapes Go.ChangeAt Go.RowKit
set_option linter.unusedVariables false
set_option linter.unusedSimpArgs false

/-- n ints of one kind as values exist. -/
theorem iV_ex (kd : IntKind) (n : Nat) (f : Nat → Int) : ∃ cs : Array Value, cs.size = n ∧ ∀ p, p < n → cs[p]? = some (.int kd (f p)) :=
  ⟨Array.ofFn (n := n) fun i => Value.int kd (f i.1), by simp, fun p hp => by simp [hp]⟩
/-- (chosen, so that nothing looks into it.) -/
noncomputable def iV (kd : IntKind) (n : Nat) (f : Nat → Int) : Array Value := Classical.choose (iV_ex kd n f)
section
variable {kd : IntKind} {n : Nat} {f f' : Nat → Int}
theorem iV_size (kd : IntKind) (n : Nat) (f : Nat → Int) : (iV kd n f).size = n := (Classical.choose_spec (iV_ex kd n f)).1
theorem iV_get {p : Nat} (hp : p < n) : (iV kd n f)[p]? = some (.int kd (f p)) := (Classical.choose_spec (iV_ex kd n f)).2 p hp
theorem iV_of {cs : Array Value} (hs : cs.size = n) (h : ∀ p, p < n → cs[p]? = some (.int kd (f p))) : cs = iV kd n f := by
  apply Array.ext_getElem?
  intro i
  by_cases hi : i < n
  · rw [h i hi, iV_get hi]
  · rw [Array.getElem?_eq_none (by omega), Array.getElem?_eq_none (by rw [iV_size]; omega)]
theorem iV_congr (e : ∀ p, p < n → f p = f' p) : iV kd n f = iV kd n f' := iV_of (iV_size _ _ _) fun p hp => by rw [iV_get hp, e p hp]
theorem one_of {cs : Array Value} (h : ∀ i, i < cs.size → ∃ v, cs[i]? = some v ∧ v.oneCell' = true) : cs.all (·.oneCell') = true := by
  rw [Array.all_eq_true_iff_forall_mem]
  intro v hv
  obtain ⟨i, hi, e⟩ := Array.mem_iff_getElem.1 hv
  obtain ⟨u, hu, h1⟩ := h i hi
  rw [Array.getElem?_eq_getElem hi, e] at hu
  cases hu
  exact h1
theorem iV_one (kd : IntKind) (n : Nat) (f : Nat → Int) : (iV kd n f).all (·.oneCell') = true :=
  one_of fun i hi => ⟨_, iV_get (by rwa [iV_size] at hi), rfl⟩
theorem iV_set (kd : IntKind) (n k : Nat) (f : Nat → Int) (v : Int) : (iV kd n f).setIfInBounds k (.int kd v) = iV kd n (fun j => if j = k then v else f j) := by
  refine iV_of (by simp [iV_size]) fun p hp => ?_
  rw [Array.getElem?_setIfInBounds]
  by_cases e : k = p
  · subst e; simp [iV_size, hp]
  · rw [if_neg e, iV_get hp, if_neg (fun h => e h.symm)]
end

theorem Bx.newAt (w : World) (k : Nat) (cs : Array Value) (t : TypeId) (hk : k = w.heap.size) : Bx (w.alloc (.cells cs t)) k cs t := by subst hk; exact Bx.new w cs t
theorem Bx.iget {w : World} {b : Nat} {kd : IntKind} {n : Nat} {f : Nat → Int} {t : TypeId} (h : Bx w b (iV kd n f) t) {p : Nat} (hp : p < n) : w.cell? ⟨b, p, none⟩ = some (.int kd (f p)) := (h.cell p).trans (iV_get hp)
theorem Bx.iset {w : World} {b : Nat} {kd : IntKind} {n : Nat} {f : Nat → Int} {t : TypeId} (h : Bx w b (iV kd n f) t) (k : Nat) (v : Int) : Bx (w.setCell ⟨b, k, none⟩ (.int kd v)) b (iV kd n (fun j => if j = k then v else f j)) t := by
  have := h.set k (.int kd v)
  rwa [iV_set] at this
theorem Bx.cast {w : World} {b : Nat} {cs cs' : Array Value} {t : TypeId} (h : Bx w b cs t) (e : cs = cs') : Bx w b cs' t := e ▸ h
theorem Bx.icongr {w : World} {b : Nat} {kd : IntKind} {n : Nat} {f f' : Nat → Int} {t : TypeId} (h : Bx w b (iV kd n f) t) (e : ∀ p, p < n → f p = f' p) : Bx w b (iV kd n f') t := h.cast (iV_congr e)
theorem setRow_below {B : Nat} {a w : World} (h : Below B a w) {g : Nat} (hg : B ≤ g) (cs : Array Value) : Below B a (w.setRow g cs) :=
  ⟨h.os, h.tape, h.output, by rw [setRow_size]; exact h.size, fun k hk => (setRow_other w g k cs (by omega)).trans (h.block k hk)⟩
theorem Bx.setRow {w : World} {b : Nat} {cs : Array Value} {t : TypeId} (h : Bx w b cs t) (cs' : Array Value) : Bx (w.setRow b cs') b cs' t := setRow_heap w b cs cs' t (0, 0) h
theorem Bx.setRowOther {w : World} {b g : Nat} {cs : Array Value} {t : TypeId} (h : Bx w b cs t) (cs' : Array Value) (hne : b ≠ g) : Bx (w.setRow g cs') b cs t := (setRow_other w g b cs' hne).trans h
/-- the k first of f, else g. -/
def upto (k : Nat) (f g : Nat → Int) : Nat → Int := fun j => if j < k then f j else g j
theorem upto_zero (f g : Nat → Int) : upto 0 f g = g := by funext j; simp [upto]
theorem upto_full {n : Nat} {f g : Nat → Int} : ∀ p, p < n → upto n f g p = f p := fun p hp => if_pos hp
theorem upto_succ {k : Nat} {f g : Nat → Int} : ∀ p, (if p = k then f k else upto k f g p) = upto (k + 1) f g p := fun p => by
  unfold upto
  by_cases e : p = k
  · subst e; rw [if_pos rfl, if_pos (by omega)]
  · rw [if_neg e]
    by_cases h : p < k
    · rw [if_pos h, if_pos (by omega)]
    · rw [if_neg h, if_neg (by omega)]

section
variable {P : Program}
/-- a box, loaded whole. -/
theorem wpList_load_box {ops : Array Oper} {rest : List Oper} {o : Oper} {a : Act} {w : World} {Q : Exit → Act → World → Prop} {b : Nat} {cs : Array Value} {t : TypeId} (hB : Bx w b cs t) (hgd : o.guard = none) (ty : TypeId) (x : Operand) (ho : o.op = .load ty x)
    (hx : a.eval x = .pointer (some ⟨b, 0, none⟩)) (d : TypeDesc) (hu : P.underlying ty = some d) (hd : d.isRow = true) (hi : (P.info? ty).map (·.size) = some cs.size)
    (h : wpList P ops Q rest (a.put o.dst (.agg cs)) w) : wpList P ops Q (o :: rest) a w :=
  wpList_load_row hgd ty x ho b hx t cs (0, 0) d hB hu (by cases d <;> simp_all) hi h
/-- a box, loaded whole, by an operation that is guarded and wanted. -/
theorem wpList_load_boxG {ops : Array Oper} {rest : List Oper} {o : Oper} {a : Act} {w : World} {Q : Exit → Act → World → Prop} {b : Nat} {cs : Array Value} {t : TypeId} (hB : Bx w b cs t) (hw : Region.wanted o (yielded ops a.tmps) = true) (ty : TypeId) (x : Operand) (ho : o.op = .load ty x)
    (hx : a.eval x = .pointer (some ⟨b, 0, none⟩)) (d : TypeDesc) (hu : P.underlying ty = some d) (hd : d.isRow = true) (hi : (P.info? ty).map (·.size) = some cs.size)
    (h : wpList P ops Q rest (a.put o.dst (.agg cs)) w) : wpList P ops Q (o :: rest) a w := by
  unfold wpList
  rw [if_pos hw]
  exact Or.inl (wp_load_row ty x ho b hx t cs (0, 0) d hB hu (by cases d <;> simp_all) hi h)
/-- a value, stored into the box that was made last. -/
theorem wpList_store_new {ops : Array Oper} {rest : List Oper} {o : Oper} {a : Act} {w : World} {Q : Exit → Act → World → Prop} {c c' : Array Value} {t : TypeId} (hgd : o.guard = none) (ty : TypeId) (x y : Operand) (ho : o.op = .store ty x y)
    (hx : a.eval x = .pointer (some ⟨w.heap.size, 0, none⟩)) (hy : a.eval y = .agg c') (hi : (P.info? ty).map (·.size) = some c'.size) (hs : c.size = c'.size) (h1 : c'.all (·.oneCell') = true)
    (h : wpList P ops Q rest (a.put o.dst undef) (w.alloc (.cells c' t))) : wpList P ops Q (o :: rest) a (w.alloc (.cells c t)) := by
  refine wpList_store_row hgd ty x y ho w.heap.size c' hx hy t c (heap_alloc_last w _) hi hs h1 ?_
  rw [World.setRow_alloc_new]
  exact h
/-- a value, stored into a box. -/
theorem wpList_store_box {ops : Array Oper} {rest : List Oper} {o : Oper} {a : Act} {w : World} {Q : Exit → Act → World → Prop} {b : Nat} {c c' : Array Value} {t : TypeId} (hB : Bx w b c t) (hgd : o.guard = none) (ty : TypeId) (x y : Operand) (ho : o.op = .store ty x y)
    (hx : a.eval x = .pointer (some ⟨b, 0, none⟩)) (hy : a.eval y = .agg c') (hi : (P.info? ty).map (·.size) = some c'.size) (hs : c.size = c'.size) (h1 : c'.all (·.oneCell') = true)
    (h : wpList P ops Q rest (a.put o.dst undef) (w.setRow b c')) : wpList P ops Q (o :: rest) a w :=
  wpList_store_row hgd ty x y ho b c' hx hy t c hB hi hs h1 h
/-- a part of a box, loaded. -/
theorem wpList_load_part {ops : Array Oper} {rest : List Oper} {o : Oper} {a : Act} {w : World} {Q : Exit → Act → World → Prop} {b : Nat} {cs : Array Value} {t : TypeId} (hB : Bx w b cs t) (hgd : o.guard = none) (ty : TypeId) (x : Operand) (ho : o.op = .load ty x)
    (off : Nat) (hx : a.eval x = .pointer (some ⟨b, off, none⟩)) (vs : Array Value) (hv : ∀ j, j < vs.size → cs[off + j]? = vs[j]?) (d : TypeDesc) (hu : P.underlying ty = some d) (hd : d.isRow = true) (hi : (P.info? ty).map (·.size) = some vs.size)
    (h : wpList P ops Q rest (a.put o.dst (.agg vs)) w) : wpList P ops Q (o :: rest) a w := by
  refine wpList_load_mid hgd ty x ho b off hx vs.toList d (fun j v hj => ?_) hu hd (by simpa using hi) ?_
  · rw [hB.cell]
    have hj' : vs[j]? = some v := by simpa using hj
    rw [hv j (Array.getElem?_eq_some_iff.1 hj').1, hj']
  · simpa using h
/-- a part of a box, loaded by an operation that is guarded and wanted. -/
theorem wpList_load_partG {ops : Array Oper} {rest : List Oper} {o : Oper} {a : Act} {w : World} {Q : Exit → Act → World → Prop} {b : Nat} {cs : Array Value} {t : TypeId} (hB : Bx w b cs t) (hw : Region.wanted o (yielded ops a.tmps) = true) (ty : TypeId) (x : Operand) (ho : o.op = .load ty x)
    (off : Nat) (hx : a.eval x = .pointer (some ⟨b, off, none⟩)) (vs : Array Value) (hv : ∀ j, j < vs.size → cs[off + j]? = vs[j]?) (d : TypeDesc) (hu : P.underlying ty = some d) (hd : d.isRow = true) (hi : (P.info? ty).map (·.size) = some vs.size)
    (h : wpList P ops Q rest (a.put o.dst (.agg vs)) w) : wpList P ops Q (o :: rest) a w := by
  unfold wpList
  rw [if_pos hw]
  refine Or.inl (wp_load_mid ty x ho b off hx vs.toList d (fun j v hj => ?_) hu hd (by simpa using hi) ?_)
  · rw [hB.cell]
    have hj' : vs[j]? = some v := by simpa using hj
    rw [hv j (Array.getElem?_eq_some_iff.1 hj').1, hj']
  · simpa using h
/-- a value, stored into a part of a box: cs' holds it, and else what cs held. -/
theorem wpList_store_part {ops : Array Oper} {rest : List Oper} {o : Oper} {a : Act} {w : World} {Q : Exit → Act → World → Prop} {b : Nat} {cs : Array Value} {t : TypeId} (hB : Bx w b cs t) (hgd : o.guard = none) (ty : TypeId) (x y : Operand) (ho : o.op = .store ty x y)
    (off : Nat) (hx : a.eval x = .pointer (some ⟨b, off, none⟩)) (vs : Array Value) (hy : a.eval y = .agg vs) (hi : (P.info? ty).map (·.size) = some vs.size) (h1 : vs.all (·.oneCell') = true)
    (cs' : Array Value) (hs : cs'.size = cs.size) (hfit : off + vs.size ≤ cs.size) (hin : ∀ j, j < vs.size → cs'[off + j]? = vs[j]?) (hout : ∀ j, j < cs.size → (j < off ∨ off + vs.size ≤ j) → cs'[j]? = cs[j]?)
    (h : ∀ w', Bx w' b cs' t → w.grownBy w' (some b) → w'.heap.size = w.heap.size → wpList P ops Q rest (a.put o.dst undef) w') : wpList P ops Q (o :: rest) a w := by
  have hB' : w.heap[b]? = some (.cells cs t (0, 0)) := hB
  have he : (cs.toList.take off ++ vs.toList ++ cs.toList.drop (off + vs.size)).toArray = cs' := by
    apply Array.ext_getElem?
    intro i
    by_cases hi1 : i < off
    · rw [hout i (by omega) (Or.inl hi1)]
      simp [List.getElem?_append, List.getElem?_take, hi1, Nat.min_eq_left (by omega : off ≤ cs.size), (by omega : i < off + vs.size)]
    by_cases hi2 : i < off + vs.size
    · obtain ⟨j, rfl⟩ : ∃ j, i = off + j := ⟨i - off, by omega⟩
      rw [hin j (by omega)]
      simp [List.getElem?_append, Nat.min_eq_left (by omega : off ≤ cs.size), (by omega : j < vs.size)]
    by_cases hi3 : i < cs.size
    · rw [hout i hi3 (Or.inr (by omega))]
      simp [List.getElem?_append, Nat.min_eq_left (by omega : off ≤ cs.size), hi2, hi1, List.getElem?_drop]
      rw [if_neg (by omega), show off + vs.size + (i - off - vs.size) = i by omega]
    · have e1 : cs'[i]? = none := Array.getElem?_eq_none (by omega)
      have hl : (cs.toList.take off ++ vs.toList ++ cs.toList.drop (off + vs.size)).length = cs.size := by simp; omega
      rw [e1, Array.getElem?_eq_none (by rw [List.size_toArray, hl]; omega)]
  refine wpList_plain hgd fun _ hK => ?_
  have hst := run_storeCells_at P b off t vs.toList 0 cs w hB' (by simpa using hfit) (fun v hv => (Array.all_eq_true_iff_forall_mem.1 h1) v (by simpa using hv))
  simp only [Nat.add_zero, Array.length_toList, he] at hst
  have hrun : (storeVar ty ⟨b, off, none⟩ (.agg vs)).run P w = .ok () (w.setRow b cs') := by
    cases hq : P.info? ty with
    | none => simp [hq] at hi
    | some i =>
      have hsz : vs.size = i.size := by simp [hq] at hi; omega
      simp [storeVar, sizeOf, typeInfo, hq, Value.cells, hsz, hst]
  unfold Oper.wp execOp
  simp only [ho, hx, hy, Instr.storeAt, Instr.sureAddr, Sem.run_bind, Sem.run_pure, Result.andThen_ok, hrun]
  exact hK _ _ (h _ (setRow_heap w b cs cs' t (0, 0) hB') ⟨rfl, rfl, rfl, by simp, fun k hk hne => setRow_other w b k cs' (fun e => hne (by rw [e]))⟩ (by simp))
/-- in a region that draws its order: a part of a box, loaded. -/
theorem yields_part {ops : Array Oper} {S : World → Prop} {op : Oper} {a : Act} (hw : Region.wanted op (yielded ops a.tmps) = true) (ty : TypeId) (x : Operand) (ho : op.op = .load ty x)
    (b off : Nat) (hx : a.eval x = .pointer (some ⟨b, off, none⟩)) (cs vs : Array Value) (t : TypeId) (hS : ∀ w, S w → Bx w b cs t) (hv : ∀ j, j < vs.size → cs[off + j]? = vs[j]?) (d : TypeDesc)
    (hu : P.underlying ty = some d) (hd : d.isRow = true) (hi : (P.info? ty).map (·.size) = some vs.size) : YieldsIf P ops S op (.agg vs) a := by
  have := yieldsIf_load_mid (P := P) (S := S) hw ty x ho b off hx vs.toList d (fun w hSw j v hj => by
    have hj' : vs[j]? = some v := by simpa using hj
    rw [(hS w hSw).cell, hv j (Array.getElem?_eq_some_iff.1 hj').1, hj']) hu hd (by simpa using hi)
  simpa using this
/-- in a region that draws its order: a box, loaded whole. -/
theorem yields_box {ops : Array Oper} {S : World → Prop} {op : Oper} {a : Act} (hw : Region.wanted op (yielded ops a.tmps) = true) (ty : TypeId) (x : Operand) (ho : op.op = .load ty x)
    (b : Nat) (hx : a.eval x = .pointer (some ⟨b, 0, none⟩)) (cs : Array Value) (t : TypeId) (hS : ∀ w, S w → Bx w b cs t) (d : TypeDesc)
    (hu : P.underlying ty = some d) (hd : d.isRow = true) (hi : (P.info? ty).map (·.size) = some cs.size) : YieldsIf P ops S op (.agg cs) a := by
  have := yieldsIf_load_mid (P := P) (S := S) hw ty x ho b 0 hx cs.toList d (fun w hSw j v hj => by
    rw [Nat.zero_add, (hS w hSw).cell]; simpa using hj) hu hd (by simpa using hi)
  simpa using this
end
end Go.Proofs.YtmkcdelfgaogaaaDoor
