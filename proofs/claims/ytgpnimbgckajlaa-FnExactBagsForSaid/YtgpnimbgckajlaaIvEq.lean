/-
  Arrays of ints by value, compared: one row, and rows of rows. Conditions stand at each.
-/
import Derived.Test.YtgpnimbgckajlaaRows
import Derived.Test.YtgpnimbgckajlaaIv
import Derived.Laws.StructEq
import Derived.ChangeKeysEq
namespace Go.Proofs.Ytgpnimbgckajlaa
open Go Go.ChangeShapes Go.WideShapes Go.ChangeAt Go.RowKit
set_option linter.unusedVariables false
set_option linter.unusedSimpArgs false
section
variable {P : Program} (w : World)
theorem run_part_row {e : TypeId} {d : TypeDesc} {i : TypeInfo} (he : P.underlying e = some d) (hd : d.isRow = true) (hi : P.info? e = some i) (xs : Array Value) (off : Nat) :
    (part e xs off).run P w = .ok (.agg (xs.extract off (off + i.size))) w := by
  have hagg : (isAgg e).run P w = .ok true w := by
    unfold isAgg
    rw [Sem.run_bind, run_underlying he w]
    cases d <;> simp_all
  simp [part, Sem.run_bind, hagg, sizeOf, typeInfo, hi]
theorem run_part_int {e : TypeId} {kd : IntKind} (he : P.underlying e = some (.int kd)) {xs : Array Value} {off : Nat} {v : Value} (hx : xs[off]? = some v) : (part e xs off).run P w = .ok v w := by
  simp [part, isAgg, run_underlying he, hx]
/-- the first k elements agree. -/
def agreeB (f g : Nat → Int) (is : List Nat) : Bool := is.all fun i => f i == g i
theorem run_items_int (d : Nat) {e : TypeId} {kd : IntKind} (he : P.underlying e = some (.int kd)) (n : Nat) (f g : Nat → Int) : ∀ is : List Nat, (∀ i ∈ is, i < n) →
    (Op.eqItems (d + 1) e 1 (iV kd n f) (iV kd n g) is).run P w = .ok (agreeB f g is) w
  | [], _ => by simp [Op.eqItems, agreeB]
  | i :: is, h => by
    have hi := h i (by simp)
    have p1 : (part e (iV kd n f) (i * 1)).run P w = .ok (.int kd (f i)) w := run_part_int w he (by rw [Nat.mul_one]; exact iV_get hi)
    have p2 : (part e (iV kd n g) (i * 1)).run P w = .ok (.int kd (g i)) w := run_part_int w he (by rw [Nat.mul_one]; exact iV_get hi)
    have p3 := run_equalIn_int (P := P) w d e kd kd (f i) (g i) he
    have ih := run_items_int d he n f g is (fun j hj => h j (by simp [hj]))
    simp only [Op.eqItems, Sem.run_bind, p1, p2, p3, Result.andThen_ok]
    cases hb : (f i == g i)
    · simp [agreeB, hb]
    · simp only [Bool.not_true, Bool.false_eq_true, if_false, ih]
      simp [agreeB, hb]
theorem run_equal_row (d : Nat) {t e : TypeId} {kd : IntKind} {n : Nat} {i : TypeInfo} (ht : P.underlying t = some (.array n e)) (he : P.underlying e = some (.int kd)) (hi : P.info? e = some i) (hc : P.cellsOf e = 1) (f g : Nat → Int) :
    (Op.equalIn (d + 2) t (.agg (iV kd n f)) (.agg (iV kd n g))).run P w = .ok (agreeB f g (List.range n)) w := by
  rw [run_equalIn_array w (d + 1) _ _ ht hi, hc, run_items_int w d he n f g _ (fun i hi => List.mem_range.1 hi)]
theorem iV_extract {kd : IntKind} {n m : Nat} {f : Nat → Int} {y : Nat} (hy : y < n) : (iV kd (n * m) f).extract (y * m) (y * m + m) = iV kd m (fun j => f (m * y + j)) := by
  have h : y * m + m ≤ n * m := by rw [← Nat.succ_mul]; exact Nat.mul_le_mul_right _ hy
  refine iV_of (by simp [iV_size]; omega) fun p hp => ?_
  rw [Array.getElem?_extract, if_pos (by rw [iV_size]; omega), iV_get (by omega), Nat.mul_comm m y]
def agreeBB (f g : Nat → Int) (m : Nat) (is : List Nat) : Bool := is.all fun y => agreeB (fun j => f (m * y + j)) (fun j => g (m * y + j)) (List.range m)
theorem run_items_row (d : Nat) {t e : TypeId} {kd : IntKind} {m : Nat} {i it : TypeInfo} (ht : P.underlying t = some (.array m e)) (he : P.underlying e = some (.int kd)) (hi : P.info? e = some i) (hc : P.cellsOf e = 1)
    (hit : P.info? t = some it) (hsz : it.size = m) (n : Nat) (f g : Nat → Int) : ∀ is : List Nat, (∀ y ∈ is, y < n) →
    (Op.eqItems (d + 2) t m (iV kd (n * m) f) (iV kd (n * m) g) is).run P w = .ok (agreeBB f g m is) w
  | [], _ => by simp [Op.eqItems, agreeBB]
  | y :: is, h => by
    have hy := h y (by simp)
    have p1 := run_part_row (P := P) w ht rfl hit (iV kd (n * m) f) (y * m)
    have p2 := run_part_row (P := P) w ht rfl hit (iV kd (n * m) g) (y * m)
    rw [hsz, iV_extract hy] at p1 p2
    have p3 := run_equal_row w d ht he hi hc (fun j => f (m * y + j)) (fun j => g (m * y + j))
    have ih := run_items_row d ht he hi hc hit hsz n f g is (fun j hj => h j (by simp [hj]))
    simp only [Op.eqItems, Sem.run_bind, p1, p2, p3, Result.andThen_ok]
    cases hb : agreeB (fun j => f (m * y + j)) (fun j => g (m * y + j)) (List.range m)
    · simp [agreeBB, hb]
    · simp only [Bool.not_true, Bool.false_eq_true, if_false, ih]
      simp [agreeBB, hb]
theorem run_equalIn_rows {t t1 e : TypeId} {kd : IntKind} {n m : Nat} {i i1 : TypeInfo} (ht : P.underlying t = some (.array n t1)) (ht1 : P.underlying t1 = some (.array m e)) (he : P.underlying e = some (.int kd)) (hi : P.info? e = some i) (hc : P.cellsOf e = 1)
    (hi1 : P.info? t1 = some i1) (hsz : i1.size = m) (hc1 : P.cellsOf t1 = m) (f g : Nat → Int) :
    (Op.equalIn 10000 t (.agg (iV kd (n * m) f)) (.agg (iV kd (n * m) g))).run P w = .ok (agreeBB f g m (List.range n)) w := by
  rw [show (10000 : Nat) = 9999 + 1 from rfl, run_equalIn_array w 9999 _ _ ht hi1, hc1, show (9999 : Nat) = 9997 + 2 from rfl, run_items_row w 9997 ht1 he hi hc hi1 hsz n f g _ (fun i hi => List.mem_range.1 hi)]
theorem run_eql_rows {t t1 e : TypeId} {kd : IntKind} {n m : Nat} {i i1 : TypeInfo} (ht : P.underlying t = some (.array n t1)) (ht1 : P.underlying t1 = some (.array m e)) (he : P.underlying e = some (.int kd)) (hi : P.info? e = some i) (hc : P.cellsOf e = 1)
    (hi1 : P.info? t1 = some i1) (hsz : i1.size = m) (hc1 : P.cellsOf t1 = m) (f g : Nat → Int) :
    (binOp .eql t (.agg (iV kd (n * m) f)) (.agg (iV kd (n * m) g))).run P w = .ok (.bool (agreeBB f g m (List.range n))) w := by
  rw [run_eql_struct, show (10000 : Nat) = 9999 + 1 from rfl, run_equalIn_array w 9999 _ _ ht hi1, hc1, show (9999 : Nat) = 9997 + 2 from rfl, run_items_row w 9997 ht1 he hi hc hi1 hsz n f g _ (fun i hi => List.mem_range.1 hi)]
  rfl
end
theorem agreeBB_iff {f g : Nat → Int} {n m : Nat} (hm : 0 < m) : agreeBB f g m (List.range n) = true ↔ ∀ p, p < n * m → f p = g p := by
  simp only [agreeBB, agreeB, List.all_eq_true, List.mem_range, beq_iff_eq]
  constructor
  · intro h p hp
    have := h (p / m) (Nat.div_lt_of_lt_mul (by rwa [Nat.mul_comm])) (p % m) (Nat.mod_lt _ hm)
    rwa [Nat.div_add_mod] at this
  · intro h y hy j hj
    refine h _ ?_
    have : m * y + m ≤ n * m := by rw [← Nat.mul_succ, Nat.mul_comm]; exact Nat.mul_le_mul_right _ hy
    omega
end Go.Proofs.Ytgpnimbgckajlaa
