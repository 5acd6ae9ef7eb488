/-
  What a row that lists three, or four, sentinels of errors.New's make gives a walk: each variable's pointer, that they differ, and their rows. It names no program. The frame of the laws whose rows list the package's errors: what the listing gives a walk, and a world that meets it. Conditions stand at each. The post of a law whose row names variables: what the walk must give. Conditions stand at each. Lists of points: read, owned; l06Along and isCrack, l06Has. Conditions stand at each. CountJoints on the two sides; all points of a square (l06Points). Conditions stand at each. The iterator impl.cellsOf over points: as over cells, one row and one column more. Conditions stand at each. Numbers that lie within: the contract of impl.areWithin. Conditions stand at each. How a crack grows: mathematics. It names no program. The model's l06Grow. Conditions stand at each. The program's next and grow. Conditions stand at each. slices.Contains of points; the program's grow. Conditions stand at each. The longest crack: mathematics. It names no program. LongestCrack on the model's side. Conditions stand at each. LongestCrack on the program's side. Conditions stand at each. LongestCrack on the program's side: the walk through all points. Conditions stand at each. Both sides of LongestCrack answer the same. Conditions stand at each.
-/
import Derived.Stop.LaidErr
import Derived.Test.YtmkcdelfgaogaaaDoorRows
import Derived.Test.YtmkcdelfgaogaaaDoorBase
import Derived.Test.YtmkcdelfgaogaaaDoorJoAll
import Derived.ChangeSame
import Derived.ChangeVars
import Derived.JoinedOf
import Derived.RowKit
import Derived.RowKitTokens
import Derived.LaidLaws
import Derived.LaidHandle
import Derived.Stop.Joined
import Derived.Stop.ErrReads
import Derived.Test.YtmkcdelfgaogaaaDoorFrame
import Derived.Test.YtmkcdelfgaogaaaDoorOwnC
import Derived.Test.YtmkcdelfgaogaaaDoorCellL
import Derived.Test.YtmkcdelfgaogaaaDoorTold
import Derived.Test.YtmkcdelfgaogaaaDoorC2
import Derived.Deep.QuietTactic
import Derived.Deep.AppendLies
import Derived.Laws.OwnMore
import Derived.Maps.AppendAt
import Derived.Deep.Onto
import Derived.Lib.Hide
import Derived.RangeFuncNested
import Derived.RangeFuncBound
import Derived.RangeFuncCalls
import Derived.RangeFuncLeaves
import Derived.Shelf.Abstract
import Derived.Shelf.RegionOpen
import Derived.WalkKit
import Derived.OwnWalkIn
import Derived.TacticsInMore
import Derived.LoopNIn
import Derived.LoopIn
import Derived.Test.YtmkcdelfgaogaaaDoorMark
import Derived.Test.YtmkcdelfgaogaaaDoorIter
import Derived.Test.YtmkcdelfgaogaaaDoorNums
import Derived.Test.YtmkcdelfgaogaaaDoorIn
import Derived.Test.YtmkcdelfgaogaaaDoorRet
import Derived.Test.YtmkcdelfgaogaaaDoorResInt64
import Derived.Test.YtmkcdelfgaogaaaDoorDrew
import Derived.Test.YtmkcdelfgaogaaaDoorIsJointS
import Derived.Test.YtmkcdelfgaogaaaDoorSlabN
namespace Go.Proofs.YtmkcdelfgaogaaaDoor
open Go Go.RowKit Go.ChangeShapes
set_option linter.unusedVariables false
theorem laid_sentinels3 {P : Program} {n0 n1 n2 nm : String} {text0 text1 text2 : List UInt8} {r : List (String × DataW Unit)} {W : World} {g0 g1 g2 : Nat} {ti tp te ts : TypeId} {ms : Array (String × TypeId)} {f : Field}
    (h : laidMet P ((n0, .iface nm (.ptr (.agg [.lit (.string text0)]))) :: (n1, .iface nm (.ptr (.agg [.lit (.string text1)]))) :: (n2, .iface nm (.ptr (.agg [.lit (.string text2)]))) :: r) W)
    (hg0 : P.globalNamed n0 = some g0) (ht0 : (P.globals[g0]?).map (·.type) = some ti)
    (hg1 : P.globalNamed n1 = some g1) (ht1 : (P.globals[g1]?).map (·.type) = some ti)
    (hg2 : P.globalNamed n2 = some g2) (ht2 : (P.globals[g2]?).map (·.type) = some ti)
    (hi : P.underlying ti = some (.interface ms)) (hrow : ∀ u, P.typeName? 3 u = some nm → u = tp)
    (hp : P.underlying tp = some (.pointer te)) (he : P.underlying te = some (.struct #[f])) (hft : f.type = ts) (hfo : f.offset = 0) (hs : P.underlying ts = some .string) (hc : P.cellsOf te = 1) (hcs : P.cellsOf ts = 1) :
    ∃ (a0 a1 a2 : Addr), W.var? P n0 = some #[.iface tp (.pointer (some a0))] ∧ W.var? P n1 = some #[.iface tp (.pointer (some a1))] ∧ W.var? P n2 = some #[.iface tp (.pointer (some a2))] ∧ (∃ c t, W.heap[a0.block]? = some (.cells c t (0, 0))) ∧ (∃ c t, W.heap[a1.block]? = some (.cells c t (0, 0))) ∧ (∃ c t, W.heap[a2.block]? = some (.cells c t (0, 0))) ∧ a0 ≠ a1 ∧ a0 ≠ a2 ∧ a1 ≠ a2 := by
  obtain ⟨ps, ⟨g0', t0', cs0, f0, p0, q0, hg0', ht0', hv0, hd0, ⟨g1', t1', cs1, f1, p1, q1, hg1', ht1', hv1, hd1, ⟨g2', t2', cs2, f2, p2, q2, hg2', ht2', hv2, hd2, _, e2⟩, e1⟩, e0⟩, hnd, hrows⟩ := h
  obtain rfl := Option.some.inj (hg0.symm.trans hg0')
  obtain rfl := Option.some.inj (ht0.symm.trans ht0')
  obtain rfl := Option.some.inj (hg1.symm.trans hg1')
  obtain rfl := Option.some.inj (ht1.symm.trans ht1')
  obtain rfl := Option.some.inj (hg2.symm.trans hg2')
  obtain rfl := Option.some.inj (ht2.symm.trans ht2')
  subst e2
  subst e1
  subst e0
  obtain ⟨l0⟩ := cs0
  obtain ⟨l1⟩ := cs1
  obtain ⟨l2⟩ := cs2
  have ok0 : ∀ u v, l0 = [.iface u v] → Value.okWide P W .any 0 u v := fun u v e => by
    subst e
    exact (hrows g0 0 (by simp [MemPlace.row])).2 u v (by simpa using World.var?_cell hg0' hv0 0)
  have ok1 : ∀ u v, l1 = [.iface u v] → Value.okWide P W .any 0 u v := fun u v e => by
    subst e
    exact (hrows g1 0 (by simp [MemPlace.row])).2 u v (by simpa using World.var?_cell hg1' hv1 0)
  have ok2 : ∀ u v, l2 = [.iface u v] → Value.okWide P W .any 0 u v := fun u v e => by
    subst e
    exact (hrows g2 0 (by simp [MemPlace.row])).2 u v (by simpa using World.var?_cell hg2' hv2 0)
  obtain ⟨a0, s0, rfl, hc0, hs0, hz0, rfl⟩ := errorString_of_trod hi hrow hp he hft hfo hs hc hcs hd0 ok0
  obtain ⟨a1, s1, rfl, hc1, hs1, hz1, rfl⟩ := errorString_of_trod hi hrow hp he hft hfo hs hc hcs hd1 ok1
  obtain ⟨a2, s2, rfl, hc2, hs2, hz2, rfl⟩ := errorString_of_trod hi hrow hp he hft hfo hs hc hcs hd2 ok2
  have hb0 := (hrows a0.block a0.off (by simp [MemPlace.row])).1
  have hb1 := (hrows a1.block a1.off (by simp [MemPlace.row])).1
  have hb2 := (hrows a2.block a2.off (by simp [MemPlace.row])).1
  refine ⟨a0, a1, a2, hv0, hv1, hv2, hb0, hb1, hb2, ?_, ?_, ?_⟩
  · rintro rfl
    simp [MemPlace.row] at hnd
  · rintro rfl
    simp [MemPlace.row] at hnd
  · rintro rfl
    simp [MemPlace.row] at hnd
theorem vars_read3n {H : Type} (enc : TypeId × Value → H) {P : Program} {W : World} {n0 n1 n2 : String} {g0 g1 g2 : Nat} {ti : TypeId} {ms : Array (String × TypeId)} {x0 x1 x2 : Value}
    (hg0 : P.globalNamed n0 = some g0) (ht0 : (P.globals[g0]?).map (·.type) = some ti) (h0 : W.var? P n0 = some #[x0]) (ix0 : IsIface x0)
    (hg1 : P.globalNamed n1 = some g1) (ht1 : (P.globals[g1]?).map (·.type) = some ti) (h1 : W.var? P n1 = some #[x1]) (ix1 : IsIface x1)
    (hg2 : P.globalNamed n2 = some g2) (ht2 : (P.globals[g2]?).map (·.type) = some ti) (h2 : W.var? P n2 = some #[x2]) (ix2 : IsIface x2)
    (hi : P.underlying ti = some (.interface ms)) (sp : Nat → Bool) :
    DataW.TrodVars enc P W sp [n0, n1, n2] [tok enc x0, tok enc x1, tok enc x2] [.cell g0 0, .cell g1 0, .cell g2 0] :=
  ⟨g0, ti, #[x0], 1, [], [.cell g1 0, .cell g2 0], hg0, ht0, h0, trod_held hi ix0 0, ⟨g1, ti, #[x1], 1, [], [.cell g2 0], hg1, ht1, h1, trod_held hi ix1 0, ⟨g2, ti, #[x2], 1, [], [], hg2, ht2, h2, trod_held hi ix2 0, rfl, rfl⟩, rfl⟩, rfl⟩
theorem laid_sentinels4 {P : Program} {n0 n1 n2 n3 nm : String} {text0 text1 text2 text3 : List UInt8} {r : List (String × DataW Unit)} {W : World} {g0 g1 g2 g3 : Nat} {ti tp te ts : TypeId} {ms : Array (String × TypeId)} {f : Field}
    (h : laidMet P ((n0, .iface nm (.ptr (.agg [.lit (.string text0)]))) :: (n1, .iface nm (.ptr (.agg [.lit (.string text1)]))) :: (n2, .iface nm (.ptr (.agg [.lit (.string text2)]))) :: (n3, .iface nm (.ptr (.agg [.lit (.string text3)]))) :: r) W)
    (hg0 : P.globalNamed n0 = some g0) (ht0 : (P.globals[g0]?).map (·.type) = some ti)
    (hg1 : P.globalNamed n1 = some g1) (ht1 : (P.globals[g1]?).map (·.type) = some ti)
    (hg2 : P.globalNamed n2 = some g2) (ht2 : (P.globals[g2]?).map (·.type) = some ti)
    (hg3 : P.globalNamed n3 = some g3) (ht3 : (P.globals[g3]?).map (·.type) = some ti)
    (hi : P.underlying ti = some (.interface ms)) (hrow : ∀ u, P.typeName? 3 u = some nm → u = tp)
    (hp : P.underlying tp = some (.pointer te)) (he : P.underlying te = some (.struct #[f])) (hft : f.type = ts) (hfo : f.offset = 0) (hs : P.underlying ts = some .string) (hc : P.cellsOf te = 1) (hcs : P.cellsOf ts = 1) :
    ∃ (a0 a1 a2 a3 : Addr), W.var? P n0 = some #[.iface tp (.pointer (some a0))] ∧ W.var? P n1 = some #[.iface tp (.pointer (some a1))] ∧ W.var? P n2 = some #[.iface tp (.pointer (some a2))] ∧ W.var? P n3 = some #[.iface tp (.pointer (some a3))] ∧ (∃ c t, W.heap[a0.block]? = some (.cells c t (0, 0))) ∧ (∃ c t, W.heap[a1.block]? = some (.cells c t (0, 0))) ∧ (∃ c t, W.heap[a2.block]? = some (.cells c t (0, 0))) ∧ (∃ c t, W.heap[a3.block]? = some (.cells c t (0, 0))) ∧ a0 ≠ a1 ∧ a0 ≠ a2 ∧ a0 ≠ a3 ∧ a1 ≠ a2 ∧ a1 ≠ a3 ∧ a2 ≠ a3 := by
  obtain ⟨ps, ⟨g0', t0', cs0, f0, p0, q0, hg0', ht0', hv0, hd0, ⟨g1', t1', cs1, f1, p1, q1, hg1', ht1', hv1, hd1, ⟨g2', t2', cs2, f2, p2, q2, hg2', ht2', hv2, hd2, ⟨g3', t3', cs3, f3, p3, q3, hg3', ht3', hv3, hd3, _, e3⟩, e2⟩, e1⟩, e0⟩, hnd, hrows⟩ := h
  obtain rfl := Option.some.inj (hg0.symm.trans hg0')
  obtain rfl := Option.some.inj (ht0.symm.trans ht0')
  obtain rfl := Option.some.inj (hg1.symm.trans hg1')
  obtain rfl := Option.some.inj (ht1.symm.trans ht1')
  obtain rfl := Option.some.inj (hg2.symm.trans hg2')
  obtain rfl := Option.some.inj (ht2.symm.trans ht2')
  obtain rfl := Option.some.inj (hg3.symm.trans hg3')
  obtain rfl := Option.some.inj (ht3.symm.trans ht3')
  subst e3
  subst e2
  subst e1
  subst e0
  obtain ⟨l0⟩ := cs0
  obtain ⟨l1⟩ := cs1
  obtain ⟨l2⟩ := cs2
  obtain ⟨l3⟩ := cs3
  have ok0 : ∀ u v, l0 = [.iface u v] → Value.okWide P W .any 0 u v := fun u v e => by
    subst e
    exact (hrows g0 0 (by simp [MemPlace.row])).2 u v (by simpa using World.var?_cell hg0' hv0 0)
  have ok1 : ∀ u v, l1 = [.iface u v] → Value.okWide P W .any 0 u v := fun u v e => by
    subst e
    exact (hrows g1 0 (by simp [MemPlace.row])).2 u v (by simpa using World.var?_cell hg1' hv1 0)
  have ok2 : ∀ u v, l2 = [.iface u v] → Value.okWide P W .any 0 u v := fun u v e => by
    subst e
    exact (hrows g2 0 (by simp [MemPlace.row])).2 u v (by simpa using World.var?_cell hg2' hv2 0)
  have ok3 : ∀ u v, l3 = [.iface u v] → Value.okWide P W .any 0 u v := fun u v e => by
    subst e
    exact (hrows g3 0 (by simp [MemPlace.row])).2 u v (by simpa using World.var?_cell hg3' hv3 0)
  obtain ⟨a0, s0, rfl, hc0, hs0, hz0, rfl⟩ := errorString_of_trod hi hrow hp he hft hfo hs hc hcs hd0 ok0
  obtain ⟨a1, s1, rfl, hc1, hs1, hz1, rfl⟩ := errorString_of_trod hi hrow hp he hft hfo hs hc hcs hd1 ok1
  obtain ⟨a2, s2, rfl, hc2, hs2, hz2, rfl⟩ := errorString_of_trod hi hrow hp he hft hfo hs hc hcs hd2 ok2
  obtain ⟨a3, s3, rfl, hc3, hs3, hz3, rfl⟩ := errorString_of_trod hi hrow hp he hft hfo hs hc hcs hd3 ok3
  have hb0 := (hrows a0.block a0.off (by simp [MemPlace.row])).1
  have hb1 := (hrows a1.block a1.off (by simp [MemPlace.row])).1
  have hb2 := (hrows a2.block a2.off (by simp [MemPlace.row])).1
  have hb3 := (hrows a3.block a3.off (by simp [MemPlace.row])).1
  refine ⟨a0, a1, a2, a3, hv0, hv1, hv2, hv3, hb0, hb1, hb2, hb3, ?_, ?_, ?_, ?_, ?_, ?_⟩
  · rintro rfl
    simp [MemPlace.row] at hnd
  · rintro rfl
    simp [MemPlace.row] at hnd
  · rintro rfl
    simp [MemPlace.row] at hnd
  · rintro rfl
    simp [MemPlace.row] at hnd
  · rintro rfl
    simp [MemPlace.row] at hnd
  · rintro rfl
    simp [MemPlace.row] at hnd
theorem vars_read4n {H : Type} (enc : TypeId × Value → H) {P : Program} {W : World} {n0 n1 n2 n3 : String} {g0 g1 g2 g3 : Nat} {ti : TypeId} {ms : Array (String × TypeId)} {x0 x1 x2 x3 : Value}
    (hg0 : P.globalNamed n0 = some g0) (ht0 : (P.globals[g0]?).map (·.type) = some ti) (h0 : W.var? P n0 = some #[x0]) (ix0 : IsIface x0)
    (hg1 : P.globalNamed n1 = some g1) (ht1 : (P.globals[g1]?).map (·.type) = some ti) (h1 : W.var? P n1 = some #[x1]) (ix1 : IsIface x1)
    (hg2 : P.globalNamed n2 = some g2) (ht2 : (P.globals[g2]?).map (·.type) = some ti) (h2 : W.var? P n2 = some #[x2]) (ix2 : IsIface x2)
    (hg3 : P.globalNamed n3 = some g3) (ht3 : (P.globals[g3]?).map (·.type) = some ti) (h3 : W.var? P n3 = some #[x3]) (ix3 : IsIface x3)
    (hi : P.underlying ti = some (.interface ms)) (sp : Nat → Bool) :
    DataW.TrodVars enc P W sp [n0, n1, n2, n3] [tok enc x0, tok enc x1, tok enc x2, tok enc x3] [.cell g0 0, .cell g1 0, .cell g2 0, .cell g3 0] :=
  ⟨g0, ti, #[x0], 1, [], [.cell g1 0, .cell g2 0, .cell g3 0], hg0, ht0, h0, trod_held hi ix0 0, ⟨g1, ti, #[x1], 1, [], [.cell g2 0, .cell g3 0], hg1, ht1, h1, trod_held hi ix1 0, ⟨g2, ti, #[x2], 1, [], [.cell g3 0], hg2, ht2, h2, trod_held hi ix2 0, ⟨g3, ti, #[x3], 1, [], [], hg3, ht3, h3, trod_held hi ix3 0, rfl, rfl⟩, rfl⟩, rfl⟩, rfl⟩
end Go.Proofs.YtmkcdelfgaogaaaDoor

namespace Go.Proofs.YtmkcdelfgaogaaaDoor
open Go Go.ChangeShapes Go.WideShapes Go.ChangeAt Go.RowKit
set_option linter.unusedVariables false
set_option maxRecDepth 100000
theorem var_below {P : Program} {W W' : World} {n : String} {cs : Array Value} (h : W.var? P n = some cs) (hb : Below W.heap.size W W') : W'.var? P n = some cs := by
  unfold World.var? at h ⊢
  cases hg : P.globalNamed n with
  | none => simp [hg] at h
  | some g =>
    simp only [hg, Option.bind_some] at h ⊢
    have hlt : g < W.heap.size := by
      rcases Nat.lt_or_ge g W.heap.size with h' | h'
      · exact h'
      · simp [Array.getElem?_eq_none h'] at h
    rw [hb.block g hlt]
    exact h
theorem gl_errNotValid : Tryd.prog.globalNamed "loop.example/g01383/impl.errNotValid" = some 0 := by kernel_rfl
theorem gt_errNotValid : (Tryd.prog.globals[0]?).map (·.type) = some 74 := by kernel_rfl
theorem gl_errBeyond : Tryd.prog.globalNamed "loop.example/g01383/impl.errBeyond" = some 1 := by kernel_rfl
theorem gt_errBeyond : (Tryd.prog.globals[1]?).map (·.type) = some 74 := by kernel_rfl
theorem gl_errTooMany : Tryd.prog.globalNamed "loop.example/g01383/impl.errTooMany" = some 2 := by kernel_rfl
theorem gt_errTooMany : (Tryd.prog.globals[2]?).map (·.type) = some 74 := by kernel_rfl
theorem gl_errNoJoint : Tryd.prog.globalNamed "loop.example/g01383/impl.errNoJoint" = some 3 := by kernel_rfl
theorem gt_errNoJoint : (Tryd.prog.globals[3]?).map (·.type) = some 74 := by kernel_rfl
theorem starErr : "*" ++ "errors.errorString" = "*errors.errorString" := by decide
theorem rowErr (u : TypeId) (h : Tryd.prog.typeName? 3 u = some "*errors.errorString") : u = 165 :=
  typeName_ptr_named (nm := "errors.errorString") (by rw [starErr]; kernel_rfl) (by kernel_rfl) (by decide) u (by rw [starErr]; exact h)
/-- the text of an error. -/
def textOf : DataW Unit → ByteArray
  | .iface _ (.ptr (.agg [.lit (.string bs)])) => ⟨bs.toArray⟩
  | _ => default
/-- the four errors. -/
structure Sent4 (W : World) (a0 a1 a2 a3 : Addr) : Prop where
  s : Sent W a0 a1 a2
  c3 : W.cell? ⟨3, 0, none⟩ = some (.iface 165 (.pointer (some a3)))
  h3 : ∃ c t, W.heap[a3.block]? = some (.cells c t (0, 0))
  n03 : a0 ≠ a3
  n13 : a1 ≠ a3
  n23 : a2 ≠ a3
theorem Sent4.below {W W' : World} {a0 a1 a2 a3 : Addr} (h : Sent4 W a0 a1 a2 a3) (hb : Below W.heap.size W W') : Sent4 W' a0 a1 a2 a3 :=
  ⟨h.s.below hb, cell_below h.c3 hb, row_below h.h3 hb, h.n03, h.n13, h.n23⟩

/-- what the rows list of the package's 3 errors. -/
abbrev laidSents3 : List (String × DataW Unit) := [("loop.example/g01383/impl.errNotValid", Rows.laid_loop_example_g01383_impl_errNotValid), ("loop.example/g01383/impl.errBeyond", Rows.laid_loop_example_g01383_impl_errBeyond), ("loop.example/g01383/impl.errTooMany", Rows.laid_loop_example_g01383_impl_errTooMany)]
/-- the variables hold their pointers. -/
structure Vr3 (W : World) (a0 a1 a2 : Addr) : Prop where
  v0 : W.var? Tryd.prog "loop.example/g01383/impl.errNotValid" = some #[.iface 165 (.pointer (some a0))]
  v1 : W.var? Tryd.prog "loop.example/g01383/impl.errBeyond" = some #[.iface 165 (.pointer (some a1))]
  v2 : W.var? Tryd.prog "loop.example/g01383/impl.errTooMany" = some #[.iface 165 (.pointer (some a2))]
theorem Vr3.below {W W' : World} {a0 a1 a2 : Addr} (h : Vr3 W a0 a1 a2) (hb : Below W.heap.size W W') : Vr3 W' a0 a1 a2 := ⟨var_below h.v0 hb, var_below h.v1 hb, var_below h.v2 hb⟩
theorem sents3_of_laid {W : World} (h : laidMetH Tryd.prog laidSents3 W) : ∃ a0 a1 a2, Sent W a0 a1 a2 ∧ Vr3 W a0 a1 a2 := by
  have h' : laidMet Tryd.prog laidSents3 W := h
  obtain ⟨a0, a1, a2, hv0, hv1, hv2, hb0, hb1, hb2, n01, n02, n12⟩ := laid_sentinels3 (P := Tryd.prog) (r := []) (ti := 74) (tp := 165) (te := 191) (ts := 9) h' gl_errNotValid gt_errNotValid gl_errBeyond gt_errBeyond gl_errTooMany gt_errTooMany Tryd.underlying74 rowErr Tryd.underlying165 Tryd.underlying191 rfl rfl Tryd.underlying9 (by kernel_rfl) (by kernel_rfl)
  exact ⟨a0, a1, a2, ⟨by simpa using World.var?_cell gl_errNotValid hv0 0, by simpa using World.var?_cell gl_errBeyond hv1 0, by simpa using World.var?_cell gl_errTooMany hv2 0, hb0, hb1, hb2, n01, n02, n12⟩, hv0, hv1, hv2⟩
/-- a world that meets the condition. -/
noncomputable def laidWorldS3 (os : Os) : World :=
  let low := (World.holding Tryd.prog default ⟨#[], #[], []⟩).heap.size
  let w0 := World.holding Tryd.prog os ⟨#[.cells #[.string (textOf Rows.laid_loop_example_g01383_impl_errNotValid)] 191, .cells #[.string (textOf Rows.laid_loop_example_g01383_impl_errBeyond)] 191, .cells #[.string (textOf Rows.laid_loop_example_g01383_impl_errTooMany)] 191], #[], []⟩
  let put (h : Array Obj) (g k : Nat) : Array Obj := h.modify g fun
    | .cells _ t frozen => .cells #[.iface 165 (.pointer (some ⟨low + k, 0, none⟩))] t frozen
    | o => o
  { w0 with heap := (put (put (put w0.heap 0 0) 1 1) 2 2) }
theorem laidWorldS3_met (os : Os) (args : Array Value) : laidMetH Tryd.prog laidSents3 ((laidWorldS3 os).forCall (fun _ _ => 0) ⟨#[], args, []⟩).memory := by
  show laidMet Tryd.prog laidSents3 _
  exact laidMet_of_run' 8 (by kernel_rfl) (by kernel_rfl)
theorem vars123 {H : Type} (enc : TypeId × Value → H) {W : World} {a0 a1 a2 : Addr} (h : Vr3 W a0 a1 a2) (sp : Nat → Bool) :
    DataW.TrodVars enc Tryd.prog W sp ["loop.example/g01383/impl.errNotValid", "loop.example/g01383/impl.errBeyond", "loop.example/g01383/impl.errTooMany"] [tok enc (.iface 165 (.pointer (some a0))), tok enc (.iface 165 (.pointer (some a1))), tok enc (.iface 165 (.pointer (some a2)))] [.cell 0 0, .cell 1 0, .cell 2 0] :=
  vars_read3n enc gl_errNotValid gt_errNotValid h.v0 trivial gl_errBeyond gt_errBeyond h.v1 trivial gl_errTooMany gt_errTooMany h.v2 trivial Tryd.underlying74 sp

/-- what the rows list of the package's 4 errors. -/
abbrev laidSents4 : List (String × DataW Unit) := [("loop.example/g01383/impl.errNotValid", Rows.laid_loop_example_g01383_impl_errNotValid), ("loop.example/g01383/impl.errBeyond", Rows.laid_loop_example_g01383_impl_errBeyond), ("loop.example/g01383/impl.errTooMany", Rows.laid_loop_example_g01383_impl_errTooMany), ("loop.example/g01383/impl.errNoJoint", Rows.laid_loop_example_g01383_impl_errNoJoint)]
/-- the variables hold their pointers. -/
structure Vr4 (W : World) (a0 a1 a2 a3 : Addr) : Prop where
  v0 : W.var? Tryd.prog "loop.example/g01383/impl.errNotValid" = some #[.iface 165 (.pointer (some a0))]
  v1 : W.var? Tryd.prog "loop.example/g01383/impl.errBeyond" = some #[.iface 165 (.pointer (some a1))]
  v2 : W.var? Tryd.prog "loop.example/g01383/impl.errTooMany" = some #[.iface 165 (.pointer (some a2))]
  v3 : W.var? Tryd.prog "loop.example/g01383/impl.errNoJoint" = some #[.iface 165 (.pointer (some a3))]
theorem Vr4.below {W W' : World} {a0 a1 a2 a3 : Addr} (h : Vr4 W a0 a1 a2 a3) (hb : Below W.heap.size W W') : Vr4 W' a0 a1 a2 a3 := ⟨var_below h.v0 hb, var_below h.v1 hb, var_below h.v2 hb, var_below h.v3 hb⟩
theorem sents4_of_laid {W : World} (h : laidMetH Tryd.prog laidSents4 W) : ∃ a0 a1 a2 a3, Sent4 W a0 a1 a2 a3 ∧ Vr4 W a0 a1 a2 a3 := by
  have h' : laidMet Tryd.prog laidSents4 W := h
  obtain ⟨a0, a1, a2, a3, hv0, hv1, hv2, hv3, hb0, hb1, hb2, hb3, n01, n02, n03, n12, n13, n23⟩ := laid_sentinels4 (P := Tryd.prog) (r := []) (ti := 74) (tp := 165) (te := 191) (ts := 9) h' gl_errNotValid gt_errNotValid gl_errBeyond gt_errBeyond gl_errTooMany gt_errTooMany gl_errNoJoint gt_errNoJoint Tryd.underlying74 rowErr Tryd.underlying165 Tryd.underlying191 rfl rfl Tryd.underlying9 (by kernel_rfl) (by kernel_rfl)
  exact ⟨a0, a1, a2, a3, ⟨⟨by simpa using World.var?_cell gl_errNotValid hv0 0, by simpa using World.var?_cell gl_errBeyond hv1 0, by simpa using World.var?_cell gl_errTooMany hv2 0, hb0, hb1, hb2, n01, n02, n12⟩, by simpa using World.var?_cell gl_errNoJoint hv3 0, hb3, n03, n13, n23⟩, hv0, hv1, hv2, hv3⟩
/-- a world that meets the condition. -/
noncomputable def laidWorldS4 (os : Os) : World :=
  let low := (World.holding Tryd.prog default ⟨#[], #[], []⟩).heap.size
  let w0 := World.holding Tryd.prog os ⟨#[.cells #[.string (textOf Rows.laid_loop_example_g01383_impl_errNotValid)] 191, .cells #[.string (textOf Rows.laid_loop_example_g01383_impl_errBeyond)] 191, .cells #[.string (textOf Rows.laid_loop_example_g01383_impl_errTooMany)] 191, .cells #[.string (textOf Rows.laid_loop_example_g01383_impl_errNoJoint)] 191], #[], []⟩
  let put (h : Array Obj) (g k : Nat) : Array Obj := h.modify g fun
    | .cells _ t frozen => .cells #[.iface 165 (.pointer (some ⟨low + k, 0, none⟩))] t frozen
    | o => o
  { w0 with heap := (put (put (put (put w0.heap 0 0) 1 1) 2 2) 3 3) }
theorem laidWorldS4_met (os : Os) (args : Array Value) : laidMetH Tryd.prog laidSents4 ((laidWorldS4 os).forCall (fun _ _ => 0) ⟨#[], args, []⟩).memory := by
  show laidMet Tryd.prog laidSents4 _
  exact laidMet_of_run' 8 (by kernel_rfl) (by kernel_rfl)
theorem vars4123 {H : Type} (enc : TypeId × Value → H) {W : World} {a0 a1 a2 a3 : Addr} (h : Vr4 W a0 a1 a2 a3) (sp : Nat → Bool) :
    DataW.TrodVars enc Tryd.prog W sp ["loop.example/g01383/impl.errNoJoint", "loop.example/g01383/impl.errNotValid", "loop.example/g01383/impl.errBeyond", "loop.example/g01383/impl.errTooMany"] [tok enc (.iface 165 (.pointer (some a3))), tok enc (.iface 165 (.pointer (some a0))), tok enc (.iface 165 (.pointer (some a1))), tok enc (.iface 165 (.pointer (some a2)))] [.cell 3 0, .cell 0 0, .cell 1 0, .cell 2 0] :=
  vars_read4n enc gl_errNoJoint gt_errNoJoint h.v3 trivial gl_errNotValid gt_errNotValid h.v0 trivial gl_errBeyond gt_errBeyond h.v1 trivial gl_errTooMany gt_errTooMany h.v2 trivial Tryd.underlying74 sp
end Go.Proofs.YtmkcdelfgaogaaaDoor

namespace Go.Proofs.YtmkcdelfgaogaaaDoor
open Go Go.ChangeShapes Go.WideShapes Go.ChangeAt Go.RowKit
set_option linter.unusedVariables false
theorem law_postV {H : Type} {enc : TypeId × Value → H} {P : Program} {f : Func} {s : ChangeSpec} {tb : TypeId} (hl : laidOutB P = true)
    (hT : ∀ t ∈ f.params.toList, P.readableRec t = true ∧ t < P.types.size) (hr : f.resultTypes = #[tb]) (htb : P.underlying tb = some .bool)
    {W W' : World} {args : Array Value} {ds gs : List (DataW H)} {before q0 : List MemPlace}
    (hW : DataW.Whole enc P f.params.toList s.vars false W args.toList ds gs before)
    (hq : ∀ q, DataW.TrodVars enc P W (fun _ => true) s.vars gs q → q = q0) (hv : ∀ sp, DataW.TrodVars enc P W' sp s.vars gs q0)
    (hfn : s.fn H (ds ++ gs) = { results := [.lit (.bool true)], args := ds, vars := gs }) (hb : Below W.heap.size W W') :
    s.post enc P f false true false false W args (.bool true) W' := by
  have hlt : ∀ x ∈ before, x.block < W.heap.size := fun x hx => by simpa using hW.lt x hx
  have hW0 := hW
  obtain ⟨p, q, hA, hV, rfl, _, _⟩ := hW0
  obtain rfl := hq q hV
  refine ⟨ds, gs, p ++ q, [], p, q, hW, ?_, ?_, ?_, hb.frame _, fun h => by cases h⟩
  · rw [hfn, hr]
    exact trodAll_mk1 (shut_bool htb true)
  · rw [hfn]
    exact trodAll_below hl hb hT hA fun x hx => hlt x (List.mem_append_left _ hx)
  · rw [hfn]
    exact hv _
end Go.Proofs.YtmkcdelfgaogaaaDoor

namespace Go.Proofs.YtmkcdelfgaogaaaDoor
open Go Go.ChangeShapes Go.WideShapes Go.ChangeAt Go.RowKit
set_option linter.unusedVariables false
set_option linter.unusedSimpArgs false
set_option maxRecDepth 100000
set_option maxHeartbeats 4000000

theorem dec_exB (p : Prop) : ∃ r : Bool, r = true ↔ p := by
  by_cases h : p
  · exact ⟨true, ⟨fun _ => h, fun _ => rfl⟩⟩
  · exact ⟨false, ⟨fun h' => Bool.noConfusion h', fun h' => absurd h' h⟩⟩
def PX (c : Nat → Int) (j : Nat) : Int := c (2 * j)
def PY (c : Nat → Int) (j : Nat) : Int := c (2 * j + 1)
def rowV (c : Nat → Int) (n : Nat) : List Value := (List.range (2 * n)).map fun j => Value.int .i8 (c j)
theorem rowV_length (c : Nat → Int) (n : Nat) : (rowV c n).length = 2 * n := by simp [rowV]
theorem rowV_get (c : Nat → Int) (n j : Nat) (h : j < 2 * n) : (rowV c n)[j]? = some (.int .i8 (c j)) := by simp [rowV, h]
theorem rowV_one (c : Nat → Int) (n : Nat) : ∀ u ∈ rowV c n, u.oneCell' = true := by
  intro u hu
  unfold rowV at hu
  obtain ⟨j, _, rfl⟩ := List.mem_map.1 hu
  rfl
/-- one list behind another one. -/
def ccP (n : Nat) (c d : Nat → Int) (j : Nat) : Int := if j < 2 * n then c j else d (j - 2 * n)
theorem rowV_app (c d : Nat → Int) (n m : Nat) : rowV c n ++ rowV d m = rowV (ccP n c d) (n + m) := by
  apply List.ext_getElem?
  intro j
  by_cases h1 : j < 2 * n
  · rw [List.getElem?_append_left (by rw [rowV_length]; exact h1), rowV_get _ _ _ h1, rowV_get _ _ _ (by omega)]
    unfold ccP
    rw [if_pos h1]
  · rw [List.getElem?_append_right (by rw [rowV_length]; omega), rowV_length]
    by_cases h2 : j < 2 * (n + m)
    · rw [rowV_get _ _ _ (by omega), rowV_get _ _ _ h2]
      unfold ccP
      rw [if_neg h1]
    · rw [List.getElem?_eq_none (by rw [rowV_length]; omega), List.getElem?_eq_none (by rw [rowV_length]; omega)]
theorem ccP_8 {c d : Nat → Int} {n : Nat} (hc : ∀ j, -128 ≤ c j ∧ c j ≤ 127) (hd : ∀ j, -128 ≤ d j ∧ d j ≤ 127) (j : Nat) : -128 ≤ ccP n c d j ∧ ccP n c d j ≤ 127 := by
  unfold ccP
  split
  · exact hc _
  · exact hd _
theorem all_cc {X Y : Int} {n m : Nat} {c d : Nat → Int} : AllIn X Y (n + m) (PX (ccP n c d)) (PY (ccP n c d)) ↔ AllIn X Y n (PX c) (PY c) ∧ AllIn X Y m (PX d) (PY d) := by
  unfold AllIn PX PY ccP
  constructor
  · intro h
    refine ⟨fun j hj => ?_, fun j hj => ?_⟩
    · have := h j (by omega)
      rwa [if_pos (by omega), if_pos (by omega)] at this
    · have := h (n + j) (by omega)
      rwa [if_neg (by omega), if_neg (by omega), show 2 * (n + j) - 2 * n = 2 * j by omega, show 2 * (n + j) + 1 - 2 * n = 2 * j + 1 by omega] at this
  · rintro ⟨h1, h2⟩ j hj
    by_cases hn : j < n
    · rw [if_pos (by omega), if_pos (by omega)]
      exact h1 j hn
    · rw [if_neg (by omega), if_neg (by omega), show 2 * j - 2 * n = 2 * (j - n) by omega, show 2 * j + 1 - 2 * n = 2 * (j - n) + 1 by omega]
      exact h2 (j - n) (by omega)
theorem Ac.rdP {w : World} {g n : Nat} {c : Nat → Int} (h : Ac w g n c) : RdP w (some ⟨g, 0, none⟩) n (PX c) (PY c) := fun _ =>
  ⟨g, 0, rfl, h.1, fun j hj => by
    have h0 := h.2 (2 * j) (by omega)
    have h1 := h.2 (2 * j + 1) (by omega)
    rw [show 0 + j * 2 = 0 + 2 * j by omega]
    exact ⟨h0.1, h1.1⟩⟩
/-- a list of points of the call's own. -/
def OwnP (w : World) (base : Nat) (v : Value) (n : Nat) (c : Nat → Int) : Prop := w.ownsRow base 35 2 v n (rowV c n)
theorem OwnP.shape {w : World} {base : Nat} {v : Value} {n : Nat} {c : Nat → Int} (h : OwnP w base v n c) : ∃ A cap, v = .slice A n cap ∧ n ≤ cap := by
  rcases h.2 with ⟨rfl, rfl⟩ | ⟨g, cap, cur, rfl, _, _, hc, _⟩
  · exact ⟨_, _, rfl, Nat.le_refl _⟩
  · exact ⟨_, _, rfl, hc⟩
theorem OwnP.rdP {w : World} {base n cap : Nat} {A : Option Addr} {c : Nat → Int} (h : OwnP w base (.slice A n cap) n c) : RdP w A n (PX c) (PY c) := fun h0 => by
  obtain ⟨g, cap', e, hb, hg⟩ := World.ownsRow.form h h0
  simp only [Value.slice.injEq] at e
  obtain ⟨rfl, _, rfl⟩ := e
  refine ⟨g, 0, rfl, hg, fun j hj => ?_⟩
  have h1 := World.ownsRow.cellAt h (2 * j) (by omega)
  have h2 := World.ownsRow.cellAt h (2 * j + 1) (by omega)
  rw [rowV_get _ _ _ (by omega)] at h1 h2
  rw [show 0 + j * 2 = 2 * j by omega]
  exact ⟨h1, h2⟩

theorem w_drew {W : World} {a : Addr} {v : Value} (h : W.cell? a = some v) : W.drew.cell? a = some v := h
/-- points that follow each other are ends of a joint. -/
def Along (G : Nat → Int) (n : Nat) (px py : Nat → Int) : Prop := ∀ i, i + 1 < n → betw G (px i) (py i) (px (i + 1)) (py (i + 1)) = true
theorem Along.step {G : Nat → Int} {i : Nat} {px py : Nat → Int} (h : ∀ j, j + 1 < i + 1 → betw G (px j) (py j) (px (j + 1)) (py (j + 1)) = true) (e : betw G (px i) (py i) (px (i + 1)) (py (i + 1)) = true) : ∀ j, j + 1 < i + 1 + 1 → betw G (px j) (py j) (px (j + 1)) (py (j + 1)) = true := fun j hj => by
  by_cases hji : j = i
  · subst hji; exact e
  · exact h j (by omega)
theorem alongS_any (b : Nat) (A : Option Addr) (n cap : Nat) (px py : Nat → Int) (G : Nat → Int) (W H : Int) (r : Bool) (w : World) (hn : n ≤ 10000000) (hcap : n ≤ cap) (hW : W ≤ 12) (hH : H ≤ 12) (hP : RdP w A n px py) (hin : AllIn W H n px py) (hG : w.rowIs b 64 144 (fun p => .int .i64 (G p))) (hr : r = true ↔ Along G n px py) :
    Calls Tryd.prog 42 #[.pointer (some ⟨b, 0, none⟩), .slice A n cap] w (SjPost r w) := by
  have HR := Lib.hid hr
  have HIN := Lib.hid hin
  have B := Below.refl w.heap.size w
  clear hr hin
  go_enter Tryd.func42, Tryd.ntmps42
  go_wp2_with fail
  go_loopw [5] (fun t5 wr => ∃ i : Nat, (i = 0 ∨ i + 1 ≤ n) ∧ t5 = .int .i64 ((i + 1 : Nat) : Int) ∧ Below w.heap.size w wr ∧ (∀ j, j + 1 < i + 1 → betw G (px j) (py j) (px (j + 1)) (py (j + 1)) = true)) (fun t5 wr => n + 1 - (intOf t5).toNat)
  case atStart => exact ⟨0, .inl rfl, by simp, B, fun j hj => by omega⟩
  case round =>
    clear B
    obtain ⟨i, hi, rfl, B, hall⟩ := hrel
    obtain ⟨wo, rfl⟩ : ∃ wo : World, wo = wr := ⟨_, rfl⟩
    have HA := Lib.hid hall
    clear hall
    by_cases hlt : i + 1 < n
    · have hli : ((i + 1 : Nat) : Int) < (n : Int) := by omega
      have hli2 : ((i : Nat) : Int) < (n : Int) := by omega
      obtain ⟨b', off, rfl, hbl, hcell⟩ := hP.below B (by omega)
      obtain ⟨cx, cy⟩ := hcell i (by omega)
      obtain ⟨dx, dy⟩ := hcell (i + 1) hlt
      have hI := HIN.out i (by omega)
      have hJ := HIN.out (i + 1) hlt
      obtain ⟨x, hx⟩ : ∃ x, px i = x := ⟨_, rfl⟩
      obtain ⟨y, hy⟩ : ∃ y, py i = y := ⟨_, rfl⟩
      obtain ⟨x', hx'⟩ : ∃ x, px (i + 1) = x := ⟨_, rfl⟩
      obtain ⟨y', hy'⟩ : ∃ y, py (i + 1) = y := ⟨_, rfl⟩
      rw [hx] at cx hI
      rw [hy] at cy hI
      rw [hx'] at dx hJ
      rw [hy'] at dy hJ
      obtain ⟨i1, i2, i3, i4⟩ := hI
      obtain ⟨s, hs⟩ : ∃ s, s = betw G x y x' y' := ⟨_, rfl⟩
      have HH := fun W' hg => betwS_any b x y x' y' G W' (by omega) (by omega) hg
      rw [← hs] at HH
      have HH' := Lib.hid HH
      have HSs := Lib.hid (show betw G (px i) (py i) (px (i + 1)) (py (i + 1)) = s by rw [hx, hy, hx', hy', hs])
      obtain ⟨k, hk⟩ : ∃ k, k = i + 1 := ⟨_, rfl⟩
      rw [← hk] at dx dy hli ⊢
      have hwr : IntKind.i64.wrap ((k : Int) - 1) = (i : Int) := by rw [hk, show (((i + 1 : Nat) : Int) - 1) = (i : Int) by omega]; exact IntWalk.i64_in _ (by omega)
      have hws : IntKind.i64.wrap ((k : Int) + 1) = (k : Int) + 1 := IntWalk.i64_in _ (by omega)
      have hcap' : (k : Int) < (cap : Int) := by omega
      have HK := Lib.hid hk
      have hhi : ¬ ((i : Int) < 0) := by omega
      have RG := hG.of_block (B.block _ hG.lt)
      clear hs hx hy hx' hy' hcell hJ HH i1 i2 i3 i4 hlt hi hk
      go_wp2_with fail
      refine wp_region_held_drew (S := fun w' => w'.cell? ⟨b', off + i * 2, none⟩ = some (.int .i8 x) ∧ w'.cell? ⟨b', off + i * 2 + 1, none⟩ = some (.int .i8 y) ∧ w'.cell? ⟨b', off + k * 2, none⟩ = some (.int .i8 x') ∧ w'.cell? ⟨b', off + k * 2 + 1, none⟩ = some (.int .i8 y')) (by kernel_rfl) ⟨cx, cy, dx, dy⟩ (fun hHeld => ?_)
      refine wpAnyH_take (i := 0) (oi := _) (v := ?_) rfl (by kernel_rfl) (by kernel_rfl) (by kernel_rfl) (fun _ _ _ h => h) (Or.inl ⟨by kernel_rfl, ?_⟩) (by assumption) ?_
      rotate_left
      · intro w hSw; (try dsimp only at hSw); go_simp; first | done | with_reducible rfl
      try simp only [List.getElem_toArray, List.getElem_cons_zero, List.getElem_cons_succ, Act.put, List.setIfInBounds_toArray, List.set_cons_zero, List.set_cons_succ]
      refine wpAnyH_take (i := 1) (oi := _) (v := ?_) rfl (by kernel_rfl) (by kernel_rfl) (by kernel_rfl) (fun _ _ _ h => h) (Or.inl ⟨by kernel_rfl, ?_⟩) (by assumption) ?_
      rotate_left
      · intro w hSw; (try dsimp only at hSw); go_simp; first | done | with_reducible rfl
      try simp only [List.getElem_toArray, List.getElem_cons_zero, List.getElem_cons_succ, Act.put, List.setIfInBounds_toArray, List.set_cons_zero, List.set_cons_succ]
      refine wpAnyH_take (i := 2) (oi := _) (v := ?_) rfl (by kernel_rfl) (by kernel_rfl) (by kernel_rfl) (fun _ _ _ h => h) (Or.inl ⟨by kernel_rfl, ?_⟩) (by assumption) ?_
      rotate_left
      · intro w hSw; (try dsimp only at hSw); go_simp; first | done | with_reducible rfl
      try simp only [List.getElem_toArray, List.getElem_cons_zero, List.getElem_cons_succ, Act.put, List.setIfInBounds_toArray, List.set_cons_zero, List.set_cons_succ]
      refine wpAnyH_take (i := 3) (oi := _) (v := ?_) rfl (by kernel_rfl) (by kernel_rfl) (by kernel_rfl) (fun _ _ _ h => h) (Or.inl ⟨by kernel_rfl, ?_⟩) (by assumption) ?_
      rotate_left
      · intro w hSw; (try dsimp only at hSw); go_simp; first | done | with_reducible rfl
      try simp only [List.getElem_toArray, List.getElem_cons_zero, List.getElem_cons_succ, Act.put, List.setIfInBounds_toArray, List.set_cons_zero, List.set_cons_succ]
      refine wpAnyH_take (i := 4) (oi := _) (v := ?_) rfl (by kernel_rfl) (by kernel_rfl) (by kernel_rfl) (fun _ _ _ h => h) (Or.inl ⟨by kernel_rfl, ?_⟩) (by assumption) ?_
      rotate_left
      · intro w hSw; (try dsimp only at hSw); go_simp; first | done | with_reducible rfl
      try simp only [List.getElem_toArray, List.getElem_cons_zero, List.getElem_cons_succ, Act.put, List.setIfInBounds_toArray, List.set_cons_zero, List.set_cons_succ]
      refine wpAnyH_take (i := 5) (oi := _) (v := ?_) rfl (by kernel_rfl) (by kernel_rfl) (by kernel_rfl) (fun _ _ _ h => h) (Or.inl ⟨by kernel_rfl, ?_⟩) (by assumption) ?_
      rotate_left
      · intro w hSw; (try dsimp only at hSw); go_simp; first | done | with_reducible rfl
      try simp only [List.getElem_toArray, List.getElem_cons_zero, List.getElem_cons_succ, Act.put, List.setIfInBounds_toArray, List.set_cons_zero, List.set_cons_succ]
      refine wpAnyH_take (i := 6) (oi := _) (v := ?_) rfl (by kernel_rfl) (by kernel_rfl) (by kernel_rfl) (fun _ _ _ h => h) (Or.inl ⟨by kernel_rfl, ?_⟩) (by assumption) ?_
      rotate_left
      · intro w hSw; (try dsimp only at hSw); go_simp; first | done | with_reducible rfl
      try simp only [List.getElem_toArray, List.getElem_cons_zero, List.getElem_cons_succ, Act.put, List.setIfInBounds_toArray, List.set_cons_zero, List.set_cons_succ]
      refine wpAnyH_take (i := 7) (oi := _) (v := ?_) rfl (by kernel_rfl) (by kernel_rfl) (by kernel_rfl) (fun _ _ _ h => h) (Or.inl ⟨by kernel_rfl, ?_⟩) (by assumption) ?_
      rotate_left
      · intro w hSw; (try dsimp only at hSw); go_simp; first | done | with_reducible rfl
      try simp only [List.getElem_toArray, List.getElem_cons_zero, List.getElem_cons_succ, Act.put, List.setIfInBounds_toArray, List.set_cons_zero, List.set_cons_succ]
      refine wpAnyH_take (i := 8) (oi := _) (v := ?_) rfl (by kernel_rfl) (by kernel_rfl) (by kernel_rfl) (fun _ _ _ h => h) (Or.inl ⟨by kernel_rfl, ?_⟩) (by assumption) ?_
      rotate_left
      · intro w hSw; (try dsimp only at hSw); go_simp; first | done | with_reducible rfl
      try simp only [List.getElem_toArray, List.getElem_cons_zero, List.getElem_cons_succ, Act.put, List.setIfInBounds_toArray, List.set_cons_zero, List.set_cons_succ]
      refine wpAnyH_take (i := 9) (oi := _) (v := ?_) rfl (by kernel_rfl) (by kernel_rfl) (by kernel_rfl) (fun _ _ _ h => h) (Or.inl ⟨by kernel_rfl, ?_⟩) (by assumption) ?_
      rotate_left
      · intro w hSw; (try dsimp only at hSw); go_simp; first | done | with_reducible rfl
      try simp only [List.getElem_toArray, List.getElem_cons_zero, List.getElem_cons_succ, Act.put, List.setIfInBounds_toArray, List.set_cons_zero, List.set_cons_succ]
      refine wpAnyH_ready (rs := [10]) (by kernel_rfl) (by simp) ?_
      refine AllReadyH.cons (o := _) rfl (fun K hK => ?_) AllReadyH.nil
      go_simp
      refine (HH'.out wo.drew (RG.of_block rfl)).mono ?_
      rintro e w3 ⟨rfl, hb⟩
      have cx3 := cell_below (w_drew cx) hb
      have cy3 := cell_below (w_drew cy) hb
      have dx3 := cell_below (w_drew dx) hb
      have dy3 := cell_below (w_drew dy) hb
      replace B := nxt B.drew hb
      clear hb cx cy dx dy
      refine hK.out _ _ ⟨cx3, cy3, dx3, dy3⟩ (fun hHeld => ?_)
      clear hK K
      try simp only [List.getElem_toArray, List.getElem_cons_zero, List.getElem_cons_succ, Act.put, List.setIfInBounds_toArray, List.set_cons_zero, List.set_cons_succ]
      refine wpAnyH_take (i := 11) (oi := _) (v := ?_) rfl (by kernel_rfl) (by kernel_rfl) (by kernel_rfl) (fun _ _ _ h => h) (Or.inl ⟨by kernel_rfl, ?_⟩) (by assumption) ?_
      rotate_left
      · intro w hSw; (try dsimp only at hSw); go_simp; first | done | with_reducible rfl
      try simp only [List.getElem_toArray, List.getElem_cons_zero, List.getElem_cons_succ, Act.put, List.setIfInBounds_toArray, List.set_cons_zero, List.set_cons_succ]
      refine wpAnyH_done (by kernel_rfl) ?_ _
      cases s with
      | true =>
        go_wp2
        refine ⟨⟨i + 1, .inr (by have := HK.out; omega), by rw [HK.out]; first | go_num | simp, B, Along.step HA.out HSs.out⟩, by simp [intOf]; omega⟩
      | false =>
        go_wp2
        obtain rfl : r = false := by
          cases r; rfl
          have h := HR.out.1 rfl i (by have := HK.out; omega)
          rw [HSs.out] at h; cases h
        go_ret
        exact ⟨rfl, B⟩
    · have hn2 : n ≤ i + 1 := by omega
      have hli : ¬ (((i + 1 : Nat) : Int) < (n : Int)) := by omega
      go_wp2
      obtain rfl : r = true := HR.out.2 fun j hj => HA.out j (by omega)
      go_ret
      exact ⟨rfl, B⟩
theorem isCrack_any (m : Nat) (L : List En) (A : Option Addr) (n cap : Nat) (px py : Nat → Int) (G : Nat → Int) (r : Bool) (w : World) (hn : n ≤ 10000000) (hcap : n ≤ cap) (hP : RdP w A n px py) (hpx : ∀ j, -128 ≤ px j ∧ px j ≤ 127) (hpy : ∀ j, -128 ≤ py j ∧ py j ≤ 127) (hM : EMap w m L) (hL : ∀ ax ay bx by_, hasK L (edE ax ay bx by_) = betw G ax ay bx by_) (hr : r = true ↔ Along G n px py) :
    Calls Tryd.prog 63 #[.map (some m), .slice A n cap] w (SjPost r w) := by
  have HR := Lib.hid hr
  have HPX := Lib.hid hpx
  have HPY := Lib.hid hpy
  have B := Below.refl w.heap.size w
  clear hr hpx hpy
  go_enter Tryd.func63, Tryd.ntmps63
  go_wp2_with fail
  go_loopw [5] (fun t5 wr => ∃ i : Nat, (i = 0 ∨ i + 1 ≤ n) ∧ t5 = .int .i64 ((i + 1 : Nat) : Int) ∧ Below w.heap.size w wr ∧ (∀ j, j + 1 < i + 1 → betw G (px j) (py j) (px (j + 1)) (py (j + 1)) = true)) (fun t5 wr => n + 1 - (intOf t5).toNat)
  case atStart => exact ⟨0, .inl rfl, by simp, B, fun j hj => by omega⟩
  case round =>
    clear B
    obtain ⟨i, hi, rfl, B, hall⟩ := hrel
    obtain ⟨wo, rfl⟩ : ∃ wo : World, wo = wr := ⟨_, rfl⟩
    have HA := Lib.hid hall
    clear hall
    by_cases hlt : i + 1 < n
    · have hli : ((i + 1 : Nat) : Int) < (n : Int) := by omega
      have hli2 : ((i : Nat) : Int) < (n : Int) := by omega
      obtain ⟨b', off, rfl, hbl, hcell⟩ := hP.below B (by omega)
      obtain ⟨cx, cy⟩ := hcell i (by omega)
      obtain ⟨dx, dy⟩ := hcell (i + 1) hlt
      have bx := HPX.out i
      have by' := HPY.out i
      have bx' := HPX.out (i + 1)
      have by2 := HPY.out (i + 1)
      obtain ⟨x, hx⟩ : ∃ x, px i = x := ⟨_, rfl⟩
      obtain ⟨y, hy⟩ : ∃ y, py i = y := ⟨_, rfl⟩
      obtain ⟨x', hx'⟩ : ∃ x, px (i + 1) = x := ⟨_, rfl⟩
      obtain ⟨y', hy'⟩ : ∃ y, py (i + 1) = y := ⟨_, rfl⟩
      rw [hx] at cx bx
      rw [hy] at cy by'
      rw [hx'] at dx bx'
      rw [hy'] at dy by2
      obtain ⟨s, hs⟩ : ∃ s, s = betw G x y x' y' := ⟨_, rfl⟩
      have HH := fun W' hg => jhas_any m L x y x' y' W' bx by' bx' by2 hg
      rw [hL, ← hs] at HH
      have HH' := Lib.hid HH
      have HSs := Lib.hid (show betw G (px i) (py i) (px (i + 1)) (py (i + 1)) = s by rw [hx, hy, hx', hy', hs])
      obtain ⟨k, hk⟩ : ∃ k, k = i + 1 := ⟨_, rfl⟩
      rw [← hk] at dx dy hli ⊢
      have hwr : IntKind.i64.wrap ((k : Int) - 1) = (i : Int) := by rw [hk, show (((i + 1 : Nat) : Int) - 1) = (i : Int) by omega]; exact IntWalk.i64_in _ (by omega)
      have hws : IntKind.i64.wrap ((k : Int) + 1) = (k : Int) + 1 := IntWalk.i64_in _ (by omega)
      have hcap' : (k : Int) < (cap : Int) := by omega
      have HK := Lib.hid hk
      have hhi : ¬ ((i : Int) < 0) := by omega
      have RG := hM.of_block (B.block _ hM.lt)
      clear hs hx hy hx' hy' hcell HH bx by' bx' by2 hlt hi hk
      go_wp2_with fail
      refine wp_region_held_drew (S := fun w' => w'.cell? ⟨b', off + i * 2, none⟩ = some (.int .i8 x) ∧ w'.cell? ⟨b', off + i * 2 + 1, none⟩ = some (.int .i8 y) ∧ w'.cell? ⟨b', off + k * 2, none⟩ = some (.int .i8 x') ∧ w'.cell? ⟨b', off + k * 2 + 1, none⟩ = some (.int .i8 y')) (by kernel_rfl) ⟨cx, cy, dx, dy⟩ (fun hHeld => ?_)
      refine wpAnyH_take (i := 0) (oi := _) (v := ?_) rfl (by kernel_rfl) (by kernel_rfl) (by kernel_rfl) (fun _ _ _ h => h) (Or.inl ⟨by kernel_rfl, ?_⟩) (by assumption) ?_
      rotate_left
      · intro w hSw; (try dsimp only at hSw); go_simp; first | done | with_reducible rfl
      try simp only [List.getElem_toArray, List.getElem_cons_zero, List.getElem_cons_succ, Act.put, List.setIfInBounds_toArray, List.set_cons_zero, List.set_cons_succ]
      refine wpAnyH_take (i := 1) (oi := _) (v := ?_) rfl (by kernel_rfl) (by kernel_rfl) (by kernel_rfl) (fun _ _ _ h => h) (Or.inl ⟨by kernel_rfl, ?_⟩) (by assumption) ?_
      rotate_left
      · intro w hSw; (try dsimp only at hSw); go_simp; first | done | with_reducible rfl
      try simp only [List.getElem_toArray, List.getElem_cons_zero, List.getElem_cons_succ, Act.put, List.setIfInBounds_toArray, List.set_cons_zero, List.set_cons_succ]
      refine wpAnyH_take (i := 2) (oi := _) (v := ?_) rfl (by kernel_rfl) (by kernel_rfl) (by kernel_rfl) (fun _ _ _ h => h) (Or.inl ⟨by kernel_rfl, ?_⟩) (by assumption) ?_
      rotate_left
      · intro w hSw; (try dsimp only at hSw); go_simp; first | done | with_reducible rfl
      try simp only [List.getElem_toArray, List.getElem_cons_zero, List.getElem_cons_succ, Act.put, List.setIfInBounds_toArray, List.set_cons_zero, List.set_cons_succ]
      refine wpAnyH_take (i := 3) (oi := _) (v := ?_) rfl (by kernel_rfl) (by kernel_rfl) (by kernel_rfl) (fun _ _ _ h => h) (Or.inl ⟨by kernel_rfl, ?_⟩) (by assumption) ?_
      rotate_left
      · intro w hSw; (try dsimp only at hSw); go_simp; first | done | with_reducible rfl
      try simp only [List.getElem_toArray, List.getElem_cons_zero, List.getElem_cons_succ, Act.put, List.setIfInBounds_toArray, List.set_cons_zero, List.set_cons_succ]
      refine wpAnyH_take (i := 4) (oi := _) (v := ?_) rfl (by kernel_rfl) (by kernel_rfl) (by kernel_rfl) (fun _ _ _ h => h) (Or.inl ⟨by kernel_rfl, ?_⟩) (by assumption) ?_
      rotate_left
      · intro w hSw; (try dsimp only at hSw); go_simp; first | done | with_reducible rfl
      try simp only [List.getElem_toArray, List.getElem_cons_zero, List.getElem_cons_succ, Act.put, List.setIfInBounds_toArray, List.set_cons_zero, List.set_cons_succ]
      refine wpAnyH_take (i := 5) (oi := _) (v := ?_) rfl (by kernel_rfl) (by kernel_rfl) (by kernel_rfl) (fun _ _ _ h => h) (Or.inl ⟨by kernel_rfl, ?_⟩) (by assumption) ?_
      rotate_left
      · intro w hSw; (try dsimp only at hSw); go_simp; first | done | with_reducible rfl
      try simp only [List.getElem_toArray, List.getElem_cons_zero, List.getElem_cons_succ, Act.put, List.setIfInBounds_toArray, List.set_cons_zero, List.set_cons_succ]
      refine wpAnyH_take (i := 6) (oi := _) (v := ?_) rfl (by kernel_rfl) (by kernel_rfl) (by kernel_rfl) (fun _ _ _ h => h) (Or.inl ⟨by kernel_rfl, ?_⟩) (by assumption) ?_
      rotate_left
      · intro w hSw; (try dsimp only at hSw); go_simp; first | done | with_reducible rfl
      try simp only [List.getElem_toArray, List.getElem_cons_zero, List.getElem_cons_succ, Act.put, List.setIfInBounds_toArray, List.set_cons_zero, List.set_cons_succ]
      refine wpAnyH_take (i := 7) (oi := _) (v := ?_) rfl (by kernel_rfl) (by kernel_rfl) (by kernel_rfl) (fun _ _ _ h => h) (Or.inl ⟨by kernel_rfl, ?_⟩) (by assumption) ?_
      rotate_left
      · intro w hSw; (try dsimp only at hSw); go_simp; first | done | with_reducible rfl
      try simp only [List.getElem_toArray, List.getElem_cons_zero, List.getElem_cons_succ, Act.put, List.setIfInBounds_toArray, List.set_cons_zero, List.set_cons_succ]
      refine wpAnyH_take (i := 8) (oi := _) (v := ?_) rfl (by kernel_rfl) (by kernel_rfl) (by kernel_rfl) (fun _ _ _ h => h) (Or.inl ⟨by kernel_rfl, ?_⟩) (by assumption) ?_
      rotate_left
      · intro w hSw; (try dsimp only at hSw); go_simp; first | done | with_reducible rfl
      try simp only [List.getElem_toArray, List.getElem_cons_zero, List.getElem_cons_succ, Act.put, List.setIfInBounds_toArray, List.set_cons_zero, List.set_cons_succ]
      refine wpAnyH_take (i := 9) (oi := _) (v := ?_) rfl (by kernel_rfl) (by kernel_rfl) (by kernel_rfl) (fun _ _ _ h => h) (Or.inl ⟨by kernel_rfl, ?_⟩) (by assumption) ?_
      rotate_left
      · intro w hSw; (try dsimp only at hSw); go_simp; first | done | with_reducible rfl
      try simp only [List.getElem_toArray, List.getElem_cons_zero, List.getElem_cons_succ, Act.put, List.setIfInBounds_toArray, List.set_cons_zero, List.set_cons_succ]
      refine wpAnyH_ready (rs := [10]) (by kernel_rfl) (by simp) ?_
      refine AllReadyH.cons (o := _) rfl (fun K hK => ?_) AllReadyH.nil
      go_simp
      refine (HH'.out wo.drew (RG.of_block rfl)).mono ?_
      rintro e w3 ⟨rfl, hb⟩
      have cx3 := cell_below (w_drew cx) hb
      have cy3 := cell_below (w_drew cy) hb
      have dx3 := cell_below (w_drew dx) hb
      have dy3 := cell_below (w_drew dy) hb
      replace B := nxt B.drew hb
      clear hb cx cy dx dy
      refine hK.out _ _ ⟨cx3, cy3, dx3, dy3⟩ (fun hHeld => ?_)
      clear hK K
      try simp only [List.getElem_toArray, List.getElem_cons_zero, List.getElem_cons_succ, Act.put, List.setIfInBounds_toArray, List.set_cons_zero, List.set_cons_succ]
      refine wpAnyH_take (i := 11) (oi := _) (v := ?_) rfl (by kernel_rfl) (by kernel_rfl) (by kernel_rfl) (fun _ _ _ h => h) (Or.inl ⟨by kernel_rfl, ?_⟩) (by assumption) ?_
      rotate_left
      · intro w hSw; (try dsimp only at hSw); go_simp; first | done | with_reducible rfl
      try simp only [List.getElem_toArray, List.getElem_cons_zero, List.getElem_cons_succ, Act.put, List.setIfInBounds_toArray, List.set_cons_zero, List.set_cons_succ]
      refine wpAnyH_done (by kernel_rfl) ?_ _
      cases s with
      | true =>
        go_wp2
        refine ⟨⟨i + 1, .inr (by have := HK.out; omega), by rw [HK.out]; first | go_num | simp, B, Along.step HA.out HSs.out⟩, by simp [intOf]; omega⟩
      | false =>
        go_wp2
        obtain rfl : r = false := by
          cases r; rfl
          have h := HR.out.1 rfl i (by have := HK.out; omega)
          rw [HSs.out] at h; cases h
        go_ret
        exact ⟨rfl, B⟩
    · have hn2 : n ≤ i + 1 := by omega
      have hli : ¬ (((i + 1 : Nat) : Int) < (n : Int)) := by omega
      go_wp2
      obtain rfl : r = true := HR.out.2 fun j hj => HA.out j (by omega)
      go_ret
      exact ⟨rfl, B⟩
/-- is a point in a list? -/
def HasPt (n : Nat) (px py : Nat → Int) (x y : Int) : Prop := ∃ j, j < n ∧ px j = x ∧ py j = y
theorem l06Has_any (A : Option Addr) (n cap : Nat) (px py : Nat → Int) (x y : Int) (r : Bool) (w : World) (hn : n ≤ 10000000) (hcap : n ≤ cap) (hP : RdP w A n px py) (hr : r = true ↔ HasPt n px py x y) :
    Calls Tryd.prog 43 #[.slice A n cap, .agg #[.int .i8 x, .int .i8 y]] w (SjPost r w) := by
  have HR := Lib.hid hr
  have X3 := C2.new w x y 35
  have B := al (Below.refl w.heap.size w) (.cells #[.int .i8 x, .int .i8 y] 35)
  obtain ⟨W0, hW0⟩ : ∃ W0 : World, W0 = w.alloc (.cells #[.int .i8 x, .int .i8 y] 35) := ⟨_, rfl⟩
  rw [← hW0] at X3 B
  clear hr
  go_enter Tryd.func43, Tryd.ntmps43
  go_wp2_with fail
  rw [← hW0]
  clear hW0
  go_loopw [5] (fun t5 wr => ∃ i : Nat, i ≤ n ∧ t5 = .int .i64 (i : Int) ∧ Below w.heap.size w wr ∧ C2 wr w.heap.size x y ∧ (∀ j, j < i → ¬ (px j = x ∧ py j = y))) (fun t5 wr => n - (intOf t5).toNat)
  case atStart => exact ⟨0, by omega, by simp, B, X3, fun j hj => by omega⟩
  case round =>
    clear B X3
    obtain ⟨i, hi, rfl, B, X3, hall⟩ := hrel
    obtain ⟨wo, rfl⟩ : ∃ wo : World, wo = wr := ⟨_, rfl⟩
    have HA := Lib.hid hall
    clear hall
    by_cases hlt : i < n
    · have hli : (i : Int) < (n : Int) := by omega
      have hcap' : (i : Int) < (cap : Int) := by omega
      obtain ⟨b', off, rfl, hbl, hcell⟩ := hP.below B (by omega)
      obtain ⟨cx, cy⟩ := hcell i hlt
      obtain ⟨l3, p3, q3⟩ := id X3
      obtain ⟨a, ha⟩ : ∃ a, px i = a := ⟨_, rfl⟩
      obtain ⟨b, hb⟩ : ∃ b, py i = b := ⟨_, rfl⟩
      rw [ha] at cx
      rw [hb] at cy
      by_cases he : a = x ∧ b = y
      · have HE := Lib.hid he
        have d1 : (a == x) = true := by simpa using he.1
        have d2 : (b == y) = true := by simpa using he.2
        have HAB := Lib.hid (And.intro ha hb)
        clear ha hb he hcell
        go_wp2_with fail
        go_quiet (fail)
        obtain rfl : r = true := HR.out.2 ⟨i, hlt, HAB.out.1.trans HE.out.1, HAB.out.2.trans HE.out.2⟩
        go_wp2
        go_ret
        exact ⟨rfl, below_drewN' B _⟩
      · have hcase : (a = x ∧ b ≠ y) ∨ a ≠ x := by
          by_cases h : a = x
          · exact .inl ⟨h, fun h2 => he ⟨h, h2⟩⟩
          · exact .inr h
        have HE := Lib.hid he
        have HAB := Lib.hid (And.intro ha hb)
        clear ha hb he hcell
        have fin : ∀ j, j < i + 1 → ¬ (px j = x ∧ py j = y) := fun j hj => by
          by_cases e : j = i
          · subst e
            rw [HAB.out.1, HAB.out.2]
            exact HE.out
          · exact HA.out j (by omega)
        have FIN := Lib.hid fin
        clear fin
        rcases hcase with ⟨h1, h2⟩ | h1
        · have d1 : (a == x) = true := by simpa using h1
          have d2 : (b == y) = false := by simpa using h2
          clear h1 h2
          go_wp2_with fail
          go_quiet (fail)
          go_wp2
          exact ⟨⟨i + 1, by omega, by first | go_num | simp, below_drewN' B _, X3, FIN.out⟩, by simp [intOf]; omega⟩
        · have d1 : (a == x) = false := by simpa using h1
          clear h1
          go_wp2_with fail
          go_quiet (fail)
          go_wp2
          exact ⟨⟨i + 1, by omega, by first | go_num | simp, below_drewN' B _, X3, FIN.out⟩, by simp [intOf]; omega⟩
    · obtain rfl : i = n := by omega
      obtain rfl : r = false := by
        cases r; rfl
        obtain ⟨j, hj, h⟩ := HR.out.1 rfl
        exact absurd h (HA.out j hj)
      go_wp2
      go_ret
      exact ⟨rfl, B⟩
end Go.Proofs.YtmkcdelfgaogaaaDoor

namespace Go.Proofs.YtmkcdelfgaogaaaDoor
open Go Go.ChangeShapes Go.WideShapes Go.ChangeAt Go.RowKit
set_option linter.unusedVariables false
set_option linter.unusedSimpArgs false
set_option maxRecDepth 100000
set_option maxHeartbeats 2000000

theorem points_any (W H bq : Nat) (q : Value) (w : World) (hW0 : 1 ≤ W) (hW : W ≤ 12) (hH : H ≤ 12) (hq : Sq w bq W H q) :
    Calls Tryd.prog 38 #[.pointer (some ⟨bq, 0, none⟩)] w (AllPost (W + 1) (H + 1) w) := by
  obtain ⟨i0, hi, hz0, hz1, hz2⟩ := info_parts infoCell
  have hWi : (W : Int) ≤ 12 := by omega
  have hHi : (H : Int) ≤ 12 := by omega
  go_enter Tryd.func38, Tryd.ntmps38
  go_wp2
  have B0 : Below w.heap.size w (w.alloc (.cells #[] 35)) := al (Below.refl _ _) _
  have O0 : (w.alloc (.cells #[] 35)).ownsRow w.heap.size 35 2 (.slice (some ⟨w.heap.size, 0, none⟩) 0 0) 0 [] := World.ownsRow_made w #[] 0 (Nat.le_refl _) (Nat.zero_le _) rfl
  obtain ⟨W0, hW0'⟩ : ∃ W0 : World, W0 = w.alloc (.cells #[] 35) := ⟨_, rfl⟩
  rw [← hW0'] at B0 O0 ⊢
  clear hW0'
  go_loopw [3, 4] (fun t3 t4 wr => ∃ y : Nat, y ≤ H + 1 ∧ t4 = .int .i8 y ∧ Below w.heap.size w wr ∧ OwnC wr w.heap.size t3 (allC (W + 1) ((W + 1) * y))) (fun t3 t4 wr => (H + 1) - (intOf t4).toNat)
  case atStart => exact ⟨0, by omega, by simp, B0, O0⟩
  case round =>
    clear B0 O0
    obtain ⟨y, hy, rfl, B, O⟩ := hrel
    obtain ⟨v0, rfl⟩ : ∃ v0 : Value, v0 = u3 := ⟨_, rfl⟩
    have hq0 := hq.of_block B.size (B.block _ hq.1)
    obtain ⟨lq, pq, qq, rq⟩ := id hq0
    by_cases hyt : y < H + 1
    · have hyh : y ≤ H := by omega
      have hyz : (y : Int) ≤ (H : Int) := by omega
      go_wp2
      clear lq pq qq rq
      go_loopw [3, 5] (fun t3 t5 wr => ∃ x : Nat, x ≤ W + 1 ∧ t5 = .int .i8 x ∧ Below w.heap.size w wr ∧ OwnC wr w.heap.size t3 (allC (W + 1) ((W + 1) * y + x))) (fun t3 t5 wr => (W + 1) - (intOf t5).toNat)
      case atStart => exact ⟨0, by omega, by simp, B, O⟩
      case round =>
        clear B O hq0
        obtain ⟨x, hx, rfl, B, O⟩ := hrel
        have hq0 := hq.of_block B.size (B.block _ hq.1)
        obtain ⟨lq, pq, qq, rq⟩ := id hq0
        by_cases hxt : x < W + 1
        · have hxh : x ≤ W := by omega
          have h144 : (W + 1) * y + x < 169 := by
            have : (W + 1) * y + (W + 1) ≤ (W + 1) * 13 := by rw [← Nat.mul_succ]; exact Nat.mul_le_mul_left _ (by omega)
            omega
          have hyi : (y : Int) ≤ (H : Int) := by omega
          have hyj : (y : Int) ≤ 12 := by omega
          have hxi : (x : Int) ≤ (W : Int) := by omega
          have hxj : (x : Int) ≤ 12 := by omega
          have wx : IntKind.i8.wrap ((x : Int) + 1) = (x : Int) + 1 := IntWalk.i8_in _ (by omega)
          have H144 := Lib.hid h144
          clear h144
          go_wp2_with (at_builtin; refine wpList_append_own _ rfl _ _ 53 rfl w.heap.size 35 i0 (.agg #[.int .i8 0, .int .i8 0]) 2 2 Tryd.underlying53 hi hz0 hz1 hz2 rfl (by decide) _ _ _ rfl (World.ownsRow.alloc O _) ⟨wr.heap.size, 0, none⟩ 1 1 [.int .i8 (x : Int), .int .i8 (y : Int)] rfl rfl (new_cells wr #[.int .i8 (x : Int), .int .i8 (y : Int)] 35) one_ints (by rw [allC_length]; have := H144.out; unfold maxLen; omega) (by rw [allC_length]; have := H144.out; omega) (by have := B.size; simp; omega) ?_; intro v' w1 own' hgr _)
          have B1 : Below w.heap.size w w1 := (al B _).grown hgr (al B _).size (fun k e => (O.lt k e).1)
          have O1 : OwnC w1 w.heap.size v' (allC (W + 1) ((W + 1) * y + (x + 1))) := by
            unfold OwnC
            rw [← Nat.add_assoc, allC_succ, cl_eq hxt, cellsL_append, cellsL_one, List.length_append]
            exact own'
          clear own' hgr O B lq pq qq rq hq0 H144
          go_wp2
          exact ⟨⟨x + 1, by omega, by first | go_num | simp, B1, O1⟩, by simp [intOf]; omega⟩
        · obtain rfl : x = W + 1 := by omega
          go_wp2
          exact ⟨⟨y + 1, by omega, by first | go_num | simp, B, by rw [Nat.mul_succ]; exact O⟩, by simp [intOf]; omega⟩
    · obtain rfl : y = H + 1 := by omega
      go_wp2
      go_ret
      exact ⟨B, v0, rfl, O⟩

/-- what CountJoints answers. -/
def CjPost (X Y : Int) (n : Nat) (c : Nat → Int) (w : World) (e : Ending) (w' : World) : Prop :=
  Below w.heap.size w w' ∧ ((¬ Valid X Y n c ∧ e = .returned (.tuple #[.int .i64 0, .int .i64 1])) ∨ (Valid X Y n c ∧ e = .returned (.tuple #[.int .i64 ((jl X.toNat (gridN c n) (X.toNat * Y.toNat)).length : Int), .int .i64 0])))
theorem implCj_any (X Y : Int) (g n : Nat) (c : Nat → Int) (a0 a1 a2 : Addr) (w : World) (hX : -128 ≤ X ∧ X ≤ 127) (hY : -128 ≤ Y ∧ Y ≤ 127) (hc : ∀ j, -128 ≤ c j ∧ c j ≤ 127) (hm : n ≤ 1048576)
    (hrow : w.rowIs g 105 (4 * n) (fun j => .int .i8 (c j))) (hS : Sent w a0 a1 a2) :
    Calls Tryd.prog 15 #[.agg #[.int .i8 X, .int .i8 Y, .slice (some ⟨g, 0, none⟩) n n]] w (CjPost X Y n c w) := by
  have HC := Lib.hid hc
  clear hc
  go_enter Tryd.func15, Tryd.ntmps15
  go_wp2_with fail
  have B := al (Below.refl w.heap.size w) (.cells #[.int .i8 X, .int .i8 Y, .slice (some ⟨g, 0, none⟩) n n] 33)
  obtain ⟨W1, hW1⟩ : ∃ W1 : World, W1 = w.alloc (.cells #[.int .i8 X, .int .i8 Y, .slice (some ⟨g, 0, none⟩) n n] 33) := ⟨_, rfl⟩
  rw [← hW1] at B ⊢
  clear hW1
  refine (jointsFor_any X Y g n c none 0 0 (fun _ => 0) (fun _ => 0) a0 a1 a2 W1 hX hY HC.out hm (hrow.of_block (B.block _ hrow.lt)) (by omega) (by omega) (fun h => absurd h (by omega)) (fun _ => by omega) (fun _ => by omega) (hS.below B)).mono ?_
  rintro e w2 ⟨hb, hcase⟩
  replace B := nxt B hb
  have S2 := hS.below B
  clear hb
  rcases hcase with ⟨hv, rfl⟩ | ⟨hv, hn, rfl⟩ | ⟨hv, hy, m, rfl, hmw, hM⟩
  · have HV := Lib.hid hv
    clear hv
    go_wp2_with fail
    refine (codeOf0 a0 a1 a2 w2 S2).mono ?_
    rintro e w3 ⟨rfl, hb⟩
    replace B := nxt B hb
    clear hb
    go_wp2
    exact bodyPost_ret (results_tmp2 Tryd.results15 _ _ _) rfl ⟨B, .inl ⟨HV.out, rfl⟩⟩
  · exact absurd (fun j hj => absurd hj (by omega)) hn
  · have HV := Lib.hid hv
    have hl := hM.len (jl_keys _) 3
    clear hv hy
    obtain ⟨N, hN⟩ : ∃ N, N = (jl X.toNat (gridN c n) (X.toNat * Y.toNat)).length := ⟨_, rfl⟩
    rw [← hN] at hl
    have HN := Lib.hid hN
    clear hN
    go_wp2_with fail
    refine bodyPost_ret (results_tmp2 Tryd.results15 _ _ _) rfl ⟨B, .inr ⟨HV.out, ?_⟩⟩
    rw [← HN.out]
    rfl
/-- how many of the two ways below k are joints. -/
def cntW (G : Nat → Int) (x y : Int) (k : Nat) : Nat := (if 1 < k ∧ wayJ G x y 1 = true then 1 else 0) + (if 2 < k ∧ wayJ G x y 2 = true then 1 else 0)
theorem cntW_one (G : Nat → Int) (x y : Int) : cntW G x y 1 = 0 := by unfold cntW; rw [if_neg (by omega), if_neg (by omega)]
theorem cntW_three (G : Nat → Int) (x y : Int) : cntW G x y 3 = cntE G x y := by
  unfold cntW cntE wayJ
  by_cases h1 : nJ G x y = true <;> by_cases h2 : wJ G x y = true <;> simp [h1, h2]
theorem cntW_succ {G : Nat → Int} {x y : Int} {k : Nat} (h : k = 1 ∨ k = 2) : cntW G x y (k + 1) = cntW G x y k + (if wayJ G x y k = true then 1 else 0) := by
  unfold cntW
  rcases h with rfl | rfl <;> by_cases h1 : wayJ G x y 1 = true <;> by_cases h2 : wayJ G x y 2 = true <;> simp [h1, h2]
theorem cntW_le (G : Nat → Int) (x y : Int) (k : Nat) : cntW G x y k ≤ 2 := by
  unfold cntW
  split <;> split <;> omega
theorem rasS_le {W : Nat} {f : Nat → Nat → Nat} (h : ∀ x y, f x y ≤ 2) : ∀ k, rasS W f k ≤ 2 * k
  | 0 => by simp [rasS]
  | k + 1 => by
    have := rasS_le (W := W) h k
    have := h (k % W) (k / W)
    show rasS W f k + f (k % W) (k / W) ≤ _
    omega
theorem specCj_any (X Y : Int) (g n : Nat) (c : Nat → Int) (w : World) (hX : -128 ≤ X ∧ X ≤ 127) (hY : -128 ≤ Y ∧ Y ≤ 127) (hc : ∀ j, -128 ≤ c j ∧ c j ≤ 127) (hm : n ≤ 1048576)
    (hrow : w.rowIs g 105 (4 * n) (fun j => .int .i8 (c j))) :
    Calls Tryd.prog 14 #[.agg #[.int .i8 X, .int .i8 Y, .slice (some ⟨g, 0, none⟩) n n]] w (CjPost X Y n c w) := by
  have HC := Lib.hid hc
  clear hc
  go_enter Tryd.func14, Tryd.ntmps14
  go_wp2_with fail
  have X1 := (Sq.new w X Y (.slice (some ⟨g, 0, none⟩) n n) 33).alloc (.cells #[] 35)
  have B := al (al (Below.refl w.heap.size w) (.cells #[.int .i8 X, .int .i8 Y, .slice (some ⟨g, 0, none⟩) n n] 33)) (.cells #[] 35)
  obtain ⟨W1, hW1⟩ : ∃ W1 : World, W1 = (w.alloc (.cells #[.int .i8 X, .int .i8 Y, .slice (some ⟨g, 0, none⟩) n n] 33)).alloc (.cells #[] 35) := ⟨_, rfl⟩
  rw [← hW1] at X1 B ⊢
  clear hW1
  refine (told_any X Y _ g n c _ 0 0 (fun _ => 0) (fun _ => 0) true W1 hX hY HC.out hm X1 (hrow.of_block (B.block _ hrow.lt)) (by omega) (by omega) (fun h => absurd h (by omega)) (fun _ => by omega) (fun _ => by omega)).mono ?_
  rintro e w2 ⟨hb, cs, hsz, hone, hcase⟩
  have hl1 := (X1.below hb).1
  replace X1 := (X1.below hb).alloc (.cells Tryd.zeroCells64 64)
  replace B := nxt B hb
  have hsz1 := B.size
  replace B := al B (.cells Tryd.zeroCells64 64)
  have h8 := heap_alloc_new w2 (.cells Tryd.zeroCells64 64)
  have H8 := Lib.hid h8
  clear hb
  rcases hcase with ⟨hv, rfl⟩ | ⟨hv, hn, rfl⟩ | ⟨hv, hy, hcell, rfl⟩
  · have HV := Lib.hid hv
    clear hv h8
    go_wp2_with (first
      | (refine wpList_store_row rfl 64 (.tmp 4) (.tmp 13) rfl w2.heap.size cs rfl rfl 64 Tryd.zeroCells64 H8.out (by rw [info93, hsz]) (by rw [zc_size, hsz]) hone ?_))
    exact bodyPost_ret (results_tmp2 Tryd.results14 _ _ _) rfl ⟨below_setRow B hsz1 _, .inl ⟨HV.out, rfl⟩⟩
  · exact absurd ⟨rfl, fun j hj => absurd hj (by omega)⟩ hn
  obtain ⟨W, rfl⟩ : ∃ W : Nat, X = W := Int.eq_ofNat_of_zero_le (by have := hv.1; omega)
  obtain ⟨H, rfl⟩ : ∃ H : Nat, Y = H := Int.eq_ofNat_of_zero_le (by have := hv.2.2.1; omega)
  have hW0 : 1 ≤ W := by have := hv.1; omega
  have hW : W ≤ 12 := by have := hv.2.1; omega
  have hH : H ≤ 12 := by have := hv.2.2.2.1; omega
  have h8' := setRow_heap _ w2.heap.size _ cs _ _ h8
  have R := (show ((w2.alloc (.cells Tryd.zeroCells64 64)).setRow w2.heap.size cs).rowIs w2.heap.size 64 144 (fun p => .int .i64 (gridN c n p)) from ⟨cs, h8', hsz, hcell⟩)
  replace X1 : Sq ((w2.alloc (.cells Tryd.zeroCells64 64)).setRow w2.heap.size cs) _ _ _ _ := X1.of_block (by rw [setRow_size]; exact Nat.le_refl _) (setRow_other _ w2.heap.size _ cs (by omega))
  replace B := below_setRow B hsz1 cs
  obtain ⟨W3, hW3⟩ : ∃ W3 : World, W3 = (w2.alloc (.cells Tryd.zeroCells64 64)).setRow w2.heap.size cs := ⟨_, rfl⟩
  have HV := Lib.hid hv
  rw [← hW3] at R X1 B
  clear h8' hcell hv hy h8
  go_wp2_with (first
    | (refine wpList_store_row rfl 64 (.tmp 4) (.tmp 13) rfl w2.heap.size cs rfl rfl 64 Tryd.zeroCells64 H8.out (by rw [info93, hsz]) (by rw [zc_size, hsz]) hone ?_))
  rw [← hW3]
  clear hW3 H8 hone hsz
  refine (points_any W H _ _ W3 hW0 hW hH X1).mono ?_
  rintro e w5 ⟨hb, va, rfl, O⟩
  obtain ⟨N, hN⟩ : ∃ N, N = (W + 1) * (H + 1) := ⟨_, rfl⟩
  rw [← hN] at O
  have hN0 : 0 < N := by rw [hN]; exact Nat.mul_pos (by omega) (by omega)
  have hN169 : N ≤ 169 := by rw [hN]; exact Nat.mul_le_mul (show W + 1 ≤ 13 by omega) (show H + 1 ≤ 13 by omega)
  obtain ⟨ga, cap, rfl, hga, hga2⟩ := own_some O (by rw [allC_length]; exact hN0)
  rw [allC_length] at *
  replace R := R.of_block (hb.block _ R.lt)
  replace B := nxt B hb
  have HN := Lib.hid hN
  clear hb hN X1
  obtain ⟨f, hf⟩ : ∃ f : Nat → Nat → Nat, f = fun (x y : Nat) => cntE (gridN c n) (x : Int) (y : Int) := ⟨_, rfl⟩
  have HF := Lib.hid hf
  have hf2 : ∀ x y, f x y ≤ 2 := fun x y => by rw [hf]; show cntE _ _ _ ≤ 2; rw [← cntW_three]; exact cntW_le _ _ _ _
  have HF2 := Lib.hid hf2
  clear hf hf2
  go_wp2_with fail
  go_loopw [6, 8, 9] (fun t6 t8 t9 wr => ∃ i : Nat, i ≤ N ∧ t8 = .int .i64 i ∧ t6 = .int .i64 (rasS (W + 1) f i : Nat) ∧ Below w.heap.size w wr ∧ Below w5.heap.size w5 wr) (fun t6 t8 t9 wr => N - (intOf t8).toNat)
  case atStart => exact ⟨0, by omega, by simp, by simp [rasS], B, Below.refl _ _⟩
  case round =>
    clear B
    obtain ⟨i, hi, rfl, rfl, B, BB⟩ := hrel
    obtain ⟨wo, rfl⟩ : ∃ wo : World, wo = wr := ⟨_, rfl⟩
    by_cases hlt : i < N
    · obtain ⟨x, y, hxy⟩ : ∃ x y, cl (W + 1) i = (x, y) := ⟨_, _, rfl⟩
      have hx : x < W + 1 := by
        have : (cl (W + 1) i).1 < W + 1 := Nat.mod_lt _ (by omega)
        rwa [hxy] at this
      have hy : y < H + 1 := by
        have : (cl (W + 1) i).2 < H + 1 := Nat.div_lt_of_lt_mul (by rw [← HN.out]; exact hlt)
        rwa [hxy] at this
      have hcnt : rasS (W + 1) f (i + 1) = rasS (W + 1) f i + cntW (gridN c n) x y 3 := by
        show rasS (W + 1) f i + f (i % (W + 1)) (i / (W + 1)) = _
        rw [cntW_three, HF.out]
        have e1 : i % (W + 1) = x := congrArg Prod.fst hxy
        have e2 : i / (W + 1) = y := congrArg Prod.snd hxy
        rw [e1, e2]
      have hle := rasS_le (W := W + 1) HF2.out i
      obtain ⟨s, hs⟩ : ∃ s, s = rasS (W + 1) f i := ⟨_, rfl⟩
      rw [← hs] at hcnt hle ⊢
      have hs2 : s ≤ 338 := by omega
      have HCN := Lib.hid hcnt
      have hxi : (x : Int) ≤ 12 := by omega
      have hyi : (y : Int) ≤ 12 := by omega
      have HE := Lib.hid (fun k W' hk hR => edgeS_any w2.heap.size (x : Int) (y : Int) k (gridN c n) W' (by omega) (by omega) hk hR)
      have HW := Lib.hid (cntW_le (gridN c n) x y)
      have HS := Lib.hid (fun k => cntW_succ (G := gridN c n) (x := x) (y := y) (k := k))
      have hlti : (i : Int) < (N : Int) := by omega
      clear hcnt hs hle
      go_wp2_with fail
      go_loopw [6, 9] (fun t6 t9 wr => ∃ k : Nat, 1 ≤ k ∧ k ≤ 3 ∧ t9 = .int .i64 k ∧ t6 = .int .i64 ((s + cntW (gridN c n) x y k : Nat) : Int) ∧ Below w.heap.size w wr ∧ Below w5.heap.size w5 wr) (fun t6 t9 wr => 3 - (intOf t9).toNat)
      case atStart => exact ⟨1, by omega, by omega, by simp, by rw [cntW_one]; simp, B, BB⟩
      case round =>
        clear B BB
        obtain ⟨k, hk1, hk3, rfl, rfl, B, BB⟩ := hrel
        obtain ⟨wo, rfl⟩ : ∃ wo : World, wo = wr := ⟨_, rfl⟩
        by_cases hk : k < 3
        · have hki : (k : Int) ≤ 2 := by omega
          have hsuc := HS.out k (by omega)
          have hcle := HW.out k
          obtain ⟨c0, c1⟩ := OwnC.get (O.below BB) (allC_length (W + 1) N) (q := (x, y)) (by rw [allC_get (W + 1) N i hlt, hxy])
          have hcap : True := trivial
          have hga3 : ga < wo.heap.size := Nat.lt_of_lt_of_le hga2 BB.size
          obtain ⟨z, hz⟩ : ∃ z, z = s + cntW (gridN c n) x y k := ⟨_, rfl⟩
          have hz2 : z ≤ 340 := by omega
          rw [← hz]
          have HZ := Lib.hid hz
          have HSU := Lib.hid hsuc
          have RR := R.of_block (BB.block _ R.lt)
          clear hz hsuc hcle
          obtain ⟨r, hr⟩ : ∃ r, r = wayJ (gridN c n) x y k := ⟨_, rfl⟩
          have HEE := HE.out k wo (by omega) RR
          rw [← hr] at HEE
          have HEE' := Lib.hid HEE
          have HRR := Lib.hid hr
          clear hr HEE RR
          go_wp2_with fail
          refine HEE'.out.mono ?_
          rintro e w6 ⟨rfl, hb⟩
          replace B := nxt B hb
          replace BB := nxt BB hb
          clear hb HEE' c0 c1 hga3
          cases r with
          | true =>
            go_wp2
            refine ⟨⟨k + 1, by omega, by omega, by first | go_num | simp, ?_, B, BB⟩, by simp [intOf]; omega⟩
            have e2 := HSU.out
            rw [if_pos HRR.out.symm] at e2
            rw [e2, show s + (cntW (gridN c n) x y k + 1) = z + 1 by have := HZ.out; omega]
            first | rfl | simp
          | false =>
            go_wp2
            refine ⟨⟨k + 1, by omega, by omega, by first | go_num | simp, ?_, B, BB⟩, by simp [intOf]; omega⟩
            have e2 := HSU.out
            rw [if_neg (by rw [← HRR.out]; decide)] at e2
            rw [e2, show s + (cntW (gridN c n) x y k + 0) = z by have := HZ.out; omega]
        · obtain rfl : k = 3 := by omega
          go_wp2
          refine ⟨⟨i + 1, by omega, by first | go_num | simp, ?_, B, BB⟩, by simp [intOf]; omega⟩
          rw [HCN.out]
    · obtain rfl : i = N := by omega
      go_wp2
      refine bodyPost_ret (results_tmp2 Tryd.results14 _ _ _) rfl ⟨B, .inr ⟨HV.out, ?_⟩⟩
      have e := points_joints (open_out HV.out)
      rw [← HN.out, ← HF.out] at e
      show Ending.returned (.tuple #[.int .i64 ((rasS (W + 1) f i : Nat) : Int), .int .i64 0]) = _
      rw [e]
      rfl
end Go.Proofs.YtmkcdelfgaogaaaDoor

namespace Go.Proofs.YtmkcdelfgaogaaaDoor
open Go Go.RowKit Go.Shelf
set_option linter.unusedVariables false
set_option linter.unusedSimpArgs false
set_option maxRecDepth 100000
set_option maxHeartbeats 2000000
attribute [local go_sem] Oper.semAt_some

/-- a cell of the grid. -/
abbrev CX3 := { q : Nat × Nat // q.1 < 13 ∧ q.2 < 13 }
def mkC3 (x y : Nat) (hx : x < 13) (hy : y < 13) : CX3 := ⟨(x, y), hx, hy⟩
/-- cell number k of the slab that begins at x0, y0 and is wd wide. -/
def cellAt3 (x0 y0 wd k : Nat) : CX3 := ⟨(min (x0 + k % wd) 12, min (y0 + k / wd) 12), by show min _ _ < 13; omega, by show min _ _ < 13; omega⟩
def uptoC3 (x0 y0 wd k : Nat) : List CX3 := (List.range k).map (cellAt3 x0 y0 wd)
theorem uptoC_succ3 (x0 y0 wd k : Nat) : uptoC3 x0 y0 wd (k + 1) = uptoC3 x0 y0 wd k ++ [cellAt3 x0 y0 wd k] := by simp [uptoC3, List.range_succ]
theorem uptoC_length3 (x0 y0 wd k : Nat) : (uptoC3 x0 y0 wd k).length = k := by simp [uptoC3]
theorem cellAt_eq3 {x0 y0 wd ht x y : Nat} (hx : x < 13) (hy : y < 13) (h1 : x0 ≤ x) (h2 : x < x0 + wd) (h3 : y0 ≤ y) :
    cellAt3 x0 y0 wd (wd * (y - y0) + (x - x0)) = mkC3 x y hx hy := by
  have e1 : (wd * (y - y0) + (x - x0)) % wd = x - x0 := by rw [Nat.mul_add_mod]; exact Nat.mod_eq_of_lt (by omega)
  have e2 : (wd * (y - y0) + (x - x0)) / wd = y - y0 := by rw [Nat.mul_add_div (by omega), Nat.div_eq_of_lt (by omega)]; rfl
  apply Subtype.ext
  show (min (x0 + _ % wd) 12, min (y0 + _ / wd) 12) = (x, y)
  rw [e1, e2]
  apply Prod.ext <;> show min _ _ = _ <;> omega
def encC3 (q : CX3) : Array Value := #[.agg #[.int .i8 (q.1.1 : Int), .int .i8 (q.1.2 : Int)]]
theorem cells1_in3 (F : Fence) (n : Nat) (h95 : F.fn 85) (hro : F.round = none) (hn : 1 ≤ n) (l Bs x0 y0 wd ht : Nat) (hx : x0 + wd ≤ 13) (hy : y0 + ht ≤ 13) (J Jx : List CX3 → World → Prop)
    (hY : ∀ pre x W, J pre W → pre.length < wd * ht → YieldAt F (n - 1) Tryd.prog l (encC3 x) W fun e W' =>
      (e = .returned (.bool true) ∧ J (pre ++ [x]) W' ∧ KpB Bs W W') ∨ (e = .returned (.bool false) ∧ Jx (pre ++ [x]) W'))
    (W : World) (hS : Sl W Bs x0 y0 wd ht) (h0 : J [] W) :
    CallsIn F n Tryd.prog 85 #[.func (.yield l) #[] #[], .pointer (some ⟨Bs, 0, none⟩)] W fun e W' => (∃ v, e = .returned v) ∧
      ((∃ ys, ys = uptoC3 x0 y0 wd (wd * ht) ∧ J ys W') ∨ (∃ pre, (∃ k, k ≤ wd * ht ∧ pre = uptoC3 x0 y0 wd k) ∧ Jx pre W')) := by
  obtain ⟨l6, p6, q6, r6, s6⟩ := id hS
  have hx0 : (x0 : Int) ≤ 13 := by omega
  have hy0 : (y0 : Int) ≤ 13 := by omega
  have hsx : (x0 : Int) + (wd : Int) ≤ 13 := by omega
  have hsy : (y0 : Int) + (ht : Int) ≤ 13 := by omega
  refine callsIn_of_wp Tryd.func85 rfl h95 ?_ hro
  simp only [Tryd.ntmps85, List.size_toArray, List.length_cons, List.length_nil, Nat.reduceAdd, Nat.reduceSub, Array.replicate_succ, Array.replicate_zero, List.push_toArray, List.append_toArray, List.nil_append, List.cons_append]
  gi_wp2
  clear l6 p6 q6 r6 s6
  gi_loopw [3, 4] (fun t3 t4 wr => ∃ y : Nat, y0 ≤ y ∧ y ≤ y0 + ht ∧ t3 = .int .i8 y ∧ J (uptoC3 x0 y0 wd (wd * (y - y0))) wr ∧ Sl wr Bs x0 y0 wd ht) (fun t3 t4 _ => y0 + ht - (intOf t3).toNat)
  case atStart => exact ⟨y0, Nat.le_refl _, by omega, rfl, by simpa [uptoC3] using h0, hS⟩
  case round =>
    obtain ⟨y, hy1, hy2, rfl, hJ, hS2⟩ := hrel
    obtain ⟨wo, rfl⟩ : ∃ wo : World, wo = wr := ⟨_, rfl⟩
    obtain ⟨l6, p6, q6, r6, s6⟩ := id hS2
    by_cases hyt : y < y0 + ht
    · have hyi : (y : Int) < (y0 : Int) + (ht : Int) := by omega
      gi_wp2
      clear l6 p6 q6 r6 s6
      gi_loopw [4] (fun t4 wr => ∃ x : Nat, x0 ≤ x ∧ x ≤ x0 + wd ∧ t4 = .int .i8 x ∧ J (uptoC3 x0 y0 wd (wd * (y - y0) + (x - x0))) wr ∧ Sl wr Bs x0 y0 wd ht) (fun t4 _ => x0 + wd - (intOf t4).toNat)
      case atStart => exact ⟨x0, Nat.le_refl _, by omega, rfl, by simpa using hJ, hS2⟩
      case round =>
        clear hJ hS2
        obtain ⟨x, hx1, hx2, rfl, hJ, hS2⟩ := hrel
        obtain ⟨wo3, rfl⟩ : ∃ wo3 : World, wo3 = wr := ⟨_, rfl⟩
        obtain ⟨l6, p6, q6, r6, s6⟩ := id hS2
        by_cases hxt : x < x0 + wd
        · have hxi : (x : Int) < (x0 : Int) + (wd : Int) := by omega
          obtain ⟨fn, tmps, assign, body, hyy, hR⟩ := hY _ (mkC3 x y (by omega) (by omega)) wo3 hJ (by rw [uptoC_length3]; exact idx_lt hx1 hxt hy1 hyt)
          dsimp only [encC3, mkC3] at hyy
          gi_wp2
          refine hR.mono ?_
          rintro e W3 (⟨rfl, hJ3, hk3⟩ | ⟨rfl, hJx3⟩)
          · have hS3 := hS2.of_block hk3.1 hk3.2
            clear l6 p6 q6 r6 s6
            gi_wp2
            refine ⟨⟨x + 1, by omega, by omega, by first | go_num | simp, ?_, hS3⟩, by simp [intOf]; omega⟩
            rw [show wd * (y - y0) + (x + 1 - x0) = wd * (y - y0) + (x - x0) + 1 by omega, uptoC_succ3, cellAt_eq3 (ht := ht) (by omega) (by omega) hx1 hxt hy1]
            exact hJ3
          · gi_wp2
            refine bodyPost_ret (results_none rfl _ _ _) rfl ?_
            refine ⟨⟨_, rfl⟩, .inr ⟨_, ⟨wd * (y - y0) + (x - x0) + 1, idx_lt hx1 hxt hy1 hyt, ?_⟩, hJx3⟩⟩
            rw [uptoC_succ3, cellAt_eq3 (ht := ht) (by omega) (by omega) hx1 hxt hy1]
        · obtain rfl : x = x0 + wd := by omega
          gi_wp2
          refine ⟨⟨y + 1, by omega, by omega, by first | go_num | simp, ?_, hS2⟩, by simp [intOf]; omega⟩
          have e : wd * (y + 1 - y0) = wd * (y - y0) + (x0 + wd - x0) := by rw [show y + 1 - y0 = (y - y0) + 1 by omega, Nat.mul_succ]; omega
          rw [e]
          exact hJ
    · obtain rfl : y = y0 + ht := by omega
      gi_wp2
      go_end0
      exact ⟨⟨_, rfl⟩, .inl ⟨_, by rw [show y0 + ht - y0 = ht by omega], hJ⟩⟩

theorem cells_stops3 (F : Fence) (n : Nat) (h95 : F.fn 85) (hro : F.round = none) (hn : 1 ≤ n) (Bs x0 y0 wd ht : Nat) (hx : x0 + wd ≤ 13) (hy : y0 + ht ≤ 13) (w : World) (hS : Sl w Bs x0 y0 wd ht) :
    SeqStopsK F n Tryd.prog 85 #[.pointer (some ⟨Bs, 0, none⟩)] encC3 (KpB Bs) (fun ys => ys = uptoC3 x0 y0 wd (wd * ht)) (fun pre => ∃ k, k ≤ wd * ht ∧ pre = uptoC3 x0 y0 wd k) (wd * ht) w := fun l J Jx W hW _ _ hY h0 =>
  cells1_in3 F n h95 hro hn l Bs x0 y0 wd ht hx hy J Jx hY W (hS.below hW) h0

end Go.Proofs.YtmkcdelfgaogaaaDoor

namespace Go.Proofs.YtmkcdelfgaogaaaDoor
open Go Go.ChangeShapes Go.WideShapes Go.ChangeAt Go.RowKit
set_option linter.unusedVariables false
set_option linter.unusedSimpArgs false
set_option maxRecDepth 100000
set_option maxHeartbeats 4000000

/-- do m numbers lie from lo to hi? -/
def allIn (d : Nat → Int) (m : Nat) (lo hi : Int) : Prop := ∀ j, j < m → lo ≤ d j ∧ d j ≤ hi
theorem allIn.step {d : Nat → Int} {k : Nat} {lo hi : Int} (h : allIn d k lo hi) (h1 : lo ≤ d k ∧ d k ≤ hi) : allIn d (k + 1) lo hi := fun j hj => by
  by_cases e : j = k
  · subst e; exact h1
  · exact h j (by omega)
def BPost (r : Bool) (w : World) (e : Ending) (w' : World) : Prop := Below w.heap.size w w' ∧ e = .returned (.bool r)
theorem dec_ex (p : Prop) : ∃ r : Bool, r = true ↔ p := by
  by_cases h : p
  · exact ⟨true, by simp [h]⟩
  · exact ⟨false, by simp [h]⟩

theorem within_any (lo hi : Int) (A : Option Addr) (m cap : Nat) (d : Nat → Int) (r : Bool) (w : World) (hmm : m ≤ 1048576) (hr : RdK .i64 w w.heap.size A m d) (hrr : r = true ↔ allIn d m lo hi) :
    Calls Tryd.prog 47 #[.int .i64 lo, .int .i64 hi, .slice A m cap] w (BPost r w) := by
  have HR := Lib.hid hr
  have HRR := Lib.hid hrr
  clear hr hrr
  go_enter Tryd.func47, Tryd.ntmps47
  go_wp2
  go_loopw [8, 11] (fun t8 ti wr => ∃ k : Nat, k ≤ m ∧ ti = .int .i64 k ∧ Below w.heap.size w wr ∧ allIn d k lo hi) (fun t8 ti wr => m - (intOf ti).toNat)
  case atStart => exact ⟨0, by omega, rfl, Below.refl _ _, fun j hj => by omega⟩
  case round =>
    obtain ⟨k, hk, rfl, hb, hall⟩ := hrel
    have HA := Lib.hid hall
    clear hall
    by_cases hlt : k < m
    · have hki : (k : Int) < (m : Int) := by omega
      obtain ⟨b, off, rfl, hbl, c0⟩ := rdInt64 (HR.out.below hb) hlt
      by_cases h1 : d k < lo
      · have hf : r = false := Bool.eq_false_iff.2 fun h => by have := HRR.out.1 h k hlt; omega
        subst hf
        go_wp2
        go_ret
        exact ⟨hb, rfl⟩
      · by_cases h2 : hi < d k
        · have hf : r = false := Bool.eq_false_iff.2 fun h => by have := HRR.out.1 h k hlt; omega
          subst hf
          go_wp2
          go_ret
          exact ⟨hb, rfl⟩
        · have HI : Hid (lo ≤ d k ∧ d k ≤ hi) := Lib.hid ⟨by omega, by omega⟩
          go_wp2
          exact ⟨⟨k + 1, by omega, by first | go_num | simp, hb, HA.out.step HI.out⟩, by simp [intOf]; omega⟩
    · obtain rfl : k = m := by omega
      have hki : ¬ ((k : Int) < (k : Int)) := by omega
      have ht : r = true := HRR.out.2 HA.out
      subst ht
      go_wp2
      go_ret
      exact ⟨hb, rfl⟩

theorem within1 (v lo hi : Int) (r : Bool) (W : World) (hr : r = true ↔ lo ≤ v ∧ v ≤ hi) :
    Calls Tryd.prog 47 #[.int .i64 lo, .int .i64 hi, .slice (some ⟨W.heap.size, 0, none⟩) 1 1] (W.alloc (.cells #[.int .i64 v] 2)) fun e w' => e = .returned (.bool r) ∧ Below W.heap.size W w' := by
  have B := al (Below.refl W.heap.size W) (.cells #[.int .i64 v] 2)
  refine (within_any lo hi _ 1 1 (fun _ => v) r _ (by omega) ?_ ?_).mono ?_
  · intro _
    refine ⟨W.heap.size, 0, rfl, by simp, fun j hj => ?_⟩
    obtain rfl : j = 0 := by omega
    exact (Bx.new W #[.int .i64 v] 2).cell 0
  · rw [hr]
    exact ⟨fun h j hj => h, fun h => h 0 (by omega)⟩
  · rintro e w' ⟨hb, rfl⟩
    exact ⟨rfl, nxt B hb⟩
theorem within1b (v lo hi : Int) (r : Bool) (W : World) (b : Nat) (hb : b = W.heap.size) (hr : r = true ↔ lo ≤ v ∧ v ≤ hi) :
    Calls Tryd.prog 47 #[.int .i64 lo, .int .i64 hi, .slice (some ⟨b, 0, none⟩) 1 1] (W.alloc (.cells #[.int .i64 v] 2)) fun e w' => e = .returned (.bool r) ∧ Below W.heap.size W w' := by
  subst hb
  exact within1 v lo hi r W hr
end Go.Proofs.YtmkcdelfgaogaaaDoor

namespace Go.Proofs.YtmkcdelfgaogaaaDoor
open Go Go.ChangeShapes Go.WideShapes Go.ChangeAt Go.RowKit
set_option linter.unusedVariables false
set_option linter.unusedSimpArgs false
set_option maxRecDepth 100000

/-- straight, left, right. -/
def trn (h k : Nat) : Nat := if k = 0 then h else if k = 1 then (h + 3) % 4 else (h + 1) % 4
theorem trn_lt {h k : Nat} (hh : h < 4) : trn h k < 4 := by unfold trn; split; exact hh; split <;> omega
/-- which of the three turns leads along a joint; 3: none. -/
def fk (G : Nat → Int) (x y : Int) (h : Nat) : Nat := if wayJ G x y (trn h 0) = true then 0 else if wayJ G x y (trn h 1) = true then 1 else if wayJ G x y (trn h 2) = true then 2 else 3
theorem fk_of {G : Nat → Int} {x y : Int} {h k : Nat} (hk : k ≤ 3) (hno : ∀ j, j < k → wayJ G x y (trn h j) = false) (hy : k < 3 → wayJ G x y (trn h k) = true) : fk G x y h = k := by
  unfold fk
  match k, hk with
  | 0, _ => rw [if_pos (hy (by omega))]
  | 1, _ => rw [if_neg (by rw [hno 0 (by omega)]; decide), if_pos (hy (by omega))]
  | 2, _ => rw [if_neg (by rw [hno 0 (by omega)]; decide), if_neg (by rw [hno 1 (by omega)]; decide), if_pos (hy (by omega))]
  | 3, _ => rw [if_neg (by rw [hno 0 (by omega)]; decide), if_neg (by rw [hno 1 (by omega)]; decide), if_neg (by rw [hno 2 (by omega)]; decide)]
/-- one more point. -/
def appP (c : Nat → Int) (n : Nat) (x y : Int) (j : Nat) : Int := if j = 2 * n then x else if j = 2 * n + 1 then y else c j
theorem rowV_snoc (c : Nat → Int) (n : Nat) (x y : Int) : rowV c n ++ [.int .i8 x, .int .i8 y] = rowV (appP c n x y) (n + 1) := by
  unfold rowV
  rw [show 2 * (n + 1) = 2 * n + 1 + 1 by omega, List.range_succ, List.range_succ, List.map_append, List.map_append]
  have e : (List.range (2 * n)).map (fun j => Value.int .i8 (appP c n x y j)) = (List.range (2 * n)).map (fun j => Value.int .i8 (c j)) := by
    apply List.map_congr_left
    intro j hj
    have := List.mem_range.1 hj
    unfold appP
    rw [if_neg (by omega), if_neg (by omega)]
  rw [e]
  simp [appP]
/-- a crack: its end, its way, its points; has it stopped? -/
structure Gst where
  x : Int
  y : Int
  h : Nat
  n : Nat
  c : Nat → Int
  stop : Bool
noncomputable def gstep (G : Nat → Int) (s : Gst) : Gst :=
  open Classical in
  if s.stop = true then s else if fk G s.x s.y s.h = 3 then { s with stop := true } else
    if HasPt s.n (PX s.c) (PY s.c) (stepX s.x (trn s.h (fk G s.x s.y s.h))) (stepY s.y (trn s.h (fk G s.x s.y s.h))) then { s with stop := true }
    else ⟨stepX s.x (trn s.h (fk G s.x s.y s.h)), stepY s.y (trn s.h (fk G s.x s.y s.h)), trn s.h (fk G s.x s.y s.h), s.n + 1, appP s.c s.n (stepX s.x (trn s.h (fk G s.x s.y s.h))) (stepY s.y (trn s.h (fk G s.x s.y s.h))), false⟩
def g0 (x y : Int) (h : Nat) : Gst := ⟨x, y, h, 1, appP (fun _ => 0) 0 x y, false⟩
noncomputable def gst (G : Nat → Int) (x y : Int) (h : Nat) : Nat → Gst
  | 0 => g0 x y h
  | k + 1 => gstep G (gst G x y h k)
theorem gstep_stop {G : Nat → Int} {s : Gst} (h : s.stop = true) : gstep G s = s := by unfold gstep; rw [if_pos h]
theorem gstep_none {G : Nat → Int} {s : Gst} (h0 : s.stop = false) (h : fk G s.x s.y s.h = 3) : gstep G s = { s with stop := true } := by unfold gstep; rw [if_neg (by rw [h0]; decide), if_pos h]
theorem gstep_has {G : Nat → Int} {s : Gst} {k : Nat} (h0 : s.stop = false) (hk : fk G s.x s.y s.h = k) (h3 : k ≠ 3) (h : HasPt s.n (PX s.c) (PY s.c) (stepX s.x (trn s.h k)) (stepY s.y (trn s.h k))) : gstep G s = { s with stop := true } := by
  unfold gstep; rw [if_neg (by rw [h0]; decide), hk, if_neg h3, if_pos h]
theorem gstep_go {G : Nat → Int} {s : Gst} {k : Nat} (h0 : s.stop = false) (hk : fk G s.x s.y s.h = k) (h3 : k ≠ 3) (h : ¬ HasPt s.n (PX s.c) (PY s.c) (stepX s.x (trn s.h k)) (stepY s.y (trn s.h k))) :
    gstep G s = ⟨stepX s.x (trn s.h k), stepY s.y (trn s.h k), trn s.h k, s.n + 1, appP s.c s.n (stepX s.x (trn s.h k)) (stepY s.y (trn s.h k)), false⟩ := by
  unfold gstep; rw [if_neg (by rw [h0]; decide), hk, if_neg h3, if_neg h]
theorem gst_stays {G : Nat → Int} {x y : Int} {h : Nat} {k : Nat} (hs : (gst G x y h k).stop = true) : ∀ m, k ≤ m → gst G x y h m = gst G x y h k
  | 0, hm => by obtain rfl : k = 0 := by omega
                rfl
  | m + 1, hm => by
    by_cases e : k = m + 1
    · rw [e]
    · have ih := gst_stays hs m (by omega)
      show gstep G (gst G x y h m) = _
      rw [ih, gstep_stop hs]
theorem gst_ends {G : Nat → Int} {x y : Int} {h : Nat} {k m : Nat} (hs : gst G x y h (k + 1) = { gst G x y h k with stop := true }) (hm : k < m) : (gst G x y h m).n = (gst G x y h k).n ∧ (gst G x y h m).c = (gst G x y h k).c := by
  have h1 : (gst G x y h (k + 1)).stop = true := by rw [hs]
  rw [gst_stays h1 m (by omega), hs]
  exact ⟨rfl, rfl⟩
theorem jb_in {G : Nat → Int} {x y x' y' : Int} (h : jb (gA G x y) (gA G x' y') = true) : (0 ≤ x ∧ x < 12 ∧ 0 ≤ y ∧ y < 12) ∧ (0 ≤ x' ∧ x' < 12 ∧ 0 ≤ y' ∧ y' < 12) := by
  refine ⟨Classical.byContradiction fun hn => ?_, Classical.byContradiction fun hn => ?_⟩
  · rw [gA_out hn, jb_zero] at h; cases h
  · rw [gA_out hn, jb_zero'] at h; cases h
theorem step_in {G : Nat → Int} {x y : Int} {k : Nat} (hk : k < 4) (hx : 0 ≤ x ∧ x ≤ 12) (hy : 0 ≤ y ∧ y ≤ 12) (h : wayJ G x y k = true) : (0 ≤ stepX x k ∧ stepX x k ≤ 12) ∧ (0 ≤ stepY y k ∧ stepY y k ≤ 12) := by
  unfold wayJ nJ wJ at h
  unfold stepX stepY
  match k, hk with
  | 0, _ =>
    simp only [if_true] at h
    have := jb_in h
    simp; omega
  | 1, _ =>
    simp at h
    have := jb_in h
    simp; omega
  | 2, _ =>
    simp at h
    have := jb_in h
    simp; omega
  | 3, _ =>
    simp at h
    have := jb_in h
    simp; omega
theorem fk_way {G : Nat → Int} {x y : Int} {h : Nat} (h3 : fk G x y h ≠ 3) : wayJ G x y (trn h (fk G x y h)) = true := by
  unfold fk at h3 ⊢
  split
  · assumption
  · split
    · assumption
    · split
      · assumption
      · rename_i a b c
        rw [if_neg a, if_neg b, if_neg c] at h3
        exact absurd rfl h3
theorem gst_in {G : Nat → Int} {x y : Int} {h : Nat} (hx : 0 ≤ x ∧ x ≤ 12) (hy : 0 ≤ y ∧ y ≤ 12) (hh : h < 4) : ∀ k, (0 ≤ (gst G x y h k).x ∧ (gst G x y h k).x ≤ 12) ∧ (0 ≤ (gst G x y h k).y ∧ (gst G x y h k).y ≤ 12) ∧ (gst G x y h k).h < 4 ∧ (gst G x y h k).n ≤ k + 1
  | 0 => ⟨hx, hy, hh, Nat.le_refl _⟩
  | k + 1 => by
    obtain ⟨h1, h2, h3, h4⟩ := gst_in (G := G) hx hy hh k
    have e : gst G x y h (k + 1) = gstep G (gst G x y h k) := rfl
    rw [e]
    by_cases e0 : (gst G x y h k).stop = true
    · rw [gstep_stop e0]; exact ⟨h1, h2, h3, by omega⟩
    · have e0' : (gst G x y h k).stop = false := by simpa using e0
      by_cases e1 : fk G (gst G x y h k).x (gst G x y h k).y (gst G x y h k).h = 3
      · rw [gstep_none e0' e1]; exact ⟨h1, h2, h3, by show (gst G x y h k).n ≤ _; omega⟩
      · by_cases e2 : HasPt (gst G x y h k).n (PX (gst G x y h k).c) (PY (gst G x y h k).c) (stepX (gst G x y h k).x (trn (gst G x y h k).h (fk G (gst G x y h k).x (gst G x y h k).y (gst G x y h k).h))) (stepY (gst G x y h k).y (trn (gst G x y h k).h (fk G (gst G x y h k).x (gst G x y h k).y (gst G x y h k).h)))
        · rw [gstep_has e0' rfl e1 e2]; exact ⟨h1, h2, h3, by show (gst G x y h k).n ≤ _; omega⟩
        · rw [gstep_go e0' rfl e1 e2]
          have := step_in (trn_lt h3) h1 h2 (fk_way e1)
          exact ⟨this.1, this.2, trn_lt h3, by show (gst G x y h k).n + 1 ≤ _; omega⟩
/-- what growing answers. -/
def GrPost (G : Nat → Int) (x y : Int) (h years : Nat) (w : World) (e : Ending) (w' : World) : Prop :=
  Below w.heap.size w w' ∧ ∃ v, e = .returned v ∧ OwnP w' w.heap.size v (gst G x y h years).n (gst G x y h years).c
end Go.Proofs.YtmkcdelfgaogaaaDoor

namespace Go.Proofs.YtmkcdelfgaogaaaDoor
open Go Go.ChangeShapes Go.WideShapes Go.ChangeAt Go.RowKit
set_option linter.unusedVariables false
set_option linter.unusedSimpArgs false
set_option maxRecDepth 100000
set_option maxHeartbeats 4000000

theorem OwnP.belowD {w w' : World} {base n : Nat} {v : Value} {c : Nat → Int} (h : OwnP w base v n c) (hb : Below w.drew.heap.size w.drew w') : OwnP w' base v n c := by
  refine ⟨h.1, h.2.imp id ?_⟩
  rintro ⟨g, cap, cur, h1, h2, h3, h4⟩
  exact ⟨g, cap, cur, h1, h2, (hb.block g (Array.getElem?_eq_some_iff.1 h3).1).trans h3, h4⟩
theorem OwnP.below {w w' : World} {base n : Nat} {v : Value} {c : Nat → Int} (h : OwnP w base v n c) (hb : Below w.heap.size w w') : OwnP w' base v n c := by
  refine ⟨h.1, h.2.imp id ?_⟩
  rintro ⟨g, cap, cur, h1, h2, h3, h4⟩
  exact ⟨g, cap, cur, h1, h2, (hb.block g (Array.getElem?_eq_some_iff.1 h3).1).trans h3, h4⟩
theorem growS_any (b : Nat) (x0 y0 : Int) (h0 years : Nat) (G : Nat → Int) (w : World) (hx0 : 0 ≤ x0 ∧ x0 ≤ 12) (hy0 : 0 ≤ y0 ∧ y0 ≤ 12) (hh0 : h0 < 4) (hyr : years ≤ 60) (hG : w.rowIs b 64 144 (fun p => .int .i64 (G p))) :
    Calls Tryd.prog 46 #[.pointer (some ⟨b, 0, none⟩), .agg #[.int .i8 x0, .int .i8 y0], .int .i64 (h0 : Int), .int .i64 (years : Int)] w (GrPost G x0 y0 h0 years w) := by
  obtain ⟨i0, hi, hz0, hz1, hz2⟩ := info_parts infoCell
  have X5 := (Bx.new w #[.int .i8 x0, .int .i8 y0] 35).alloc (.cells #[.int .i8 x0, .int .i8 y0] 35)
  have B := al (al (Below.refl w.heap.size w) (.cells #[.int .i8 x0, .int .i8 y0] 35)) (.cells #[.int .i8 x0, .int .i8 y0] 35)
  have O : OwnP ((w.alloc (.cells #[.int .i8 x0, .int .i8 y0] 35)).alloc (.cells #[.int .i8 x0, .int .i8 y0] 35)) (w.heap.size + 1) (.slice (some ⟨w.heap.size + 1, 0, none⟩) 1 1) 1 (appP (fun _ => 0) 0 x0 y0) := by
    have e : rowV (appP (fun _ => 0) 0 x0 y0) 1 = [.int .i8 x0, .int .i8 y0] := rfl
    unfold OwnP
    rw [e]
    refine ⟨rfl, .inr ⟨w.heap.size + 1, 1, #[.int .i8 x0, .int .i8 y0], rfl, Nat.le_refl _, ?_, Nat.le_refl _, by unfold maxLen; omega, rfl, rfl⟩⟩
    have := heap_alloc_new (w.alloc (.cells #[.int .i8 x0, .int .i8 y0] 35)) (.cells #[.int .i8 x0, .int .i8 y0] 35)
    rwa [World.size_alloc] at this
  obtain ⟨W0, hW0⟩ : ∃ W0 : World, W0 = (w.alloc (.cells #[.int .i8 x0, .int .i8 y0] 35)).alloc (.cells #[.int .i8 x0, .int .i8 y0] 35) := ⟨_, rfl⟩
  rw [← hW0] at X5 B O
  have HIN := Lib.hid (fun k => gst_in (G := G) hx0 hy0 hh0 k)
  clear hx0 hy0
  go_enter Tryd.func46, Tryd.ntmps46
  go_wp2_with fail
  rw [← hW0]
  clear hW0
  go_loopw [2, 9, 10, 11, 12, 13] (fun t2 t9 t10 t11 t12 t13 wr => ∃ (n : Nat), n ≤ years ∧ t10 = .int .i64 (n : Int) ∧ t2 = .int .i64 ((gst G x0 y0 h0 n).h : Int) ∧ (gst G x0 y0 h0 n).stop = false ∧ Below w.heap.size w wr ∧ Bx wr w.heap.size #[.int .i8 (gst G x0 y0 h0 n).x, .int .i8 (gst G x0 y0 h0 n).y] 35 ∧ OwnP wr (w.heap.size + 1) t9 (gst G x0 y0 h0 n).n (gst G x0 y0 h0 n).c) (fun t2 t9 t10 t11 t12 t13 wr => years - (intOf t10).toNat)
  case atStart => exact ⟨0, by omega, by simp, rfl, rfl, B, X5, O⟩
  case round =>
    clear B X5 O
    obtain ⟨n, hn, rfl, rfl, hst, B, X5, O⟩ := hrel
    obtain ⟨v0, rfl⟩ : ∃ v0 : Value, v0 = u9 := ⟨_, rfl⟩
    obtain ⟨wo, rfl⟩ : ∃ wo : World, wo = wr := ⟨_, rfl⟩
    obtain ⟨⟨hx1, hx2⟩, ⟨hy1, hy2⟩, hh, hns⟩ := HIN.out n
    have HST := Lib.hid hst
    clear hst
    obtain ⟨s, hs⟩ : ∃ s, s = gst G x0 y0 h0 n := ⟨_, rfl⟩
    rw [← hs] at hx1 hx2 hy1 hy2 hh hns X5 O HST ⊢
    have HS := Lib.hid hs
    clear hs
    by_cases hlt : n < years
    · have hli : (n : Int) < (years : Int) := by omega
      have m1 : ((s.h : Int) + 3) % 4 = ((trn s.h 1 : Nat) : Int) := by unfold trn; simp
      have m2 : ((s.h : Int) + 1) % 4 = ((trn s.h 2 : Nat) : Int) := by unfold trn; simp
      go_wp2_with fail
      have X11 := Bx.new wo #[.int .i64 (s.h : Int), .int .i64 ((trn s.h 1 : Nat) : Int), .int .i64 ((trn s.h 2 : Nat) : Int)] 2
      replace X5 := X5.alloc (.cells #[.int .i64 (s.h : Int), .int .i64 ((trn s.h 1 : Nat) : Int), .int .i64 ((trn s.h 2 : Nat) : Int)] 2)
      replace O := World.ownsRow.alloc O (.cells #[.int .i64 (s.h : Int), .int .i64 ((trn s.h 1 : Nat) : Int), .int .i64 ((trn s.h 2 : Nat) : Int)] 2)
      have hwo := B.size
      replace B := al B (.cells #[.int .i64 (s.h : Int), .int .i64 ((trn s.h 1 : Nat) : Int), .int .i64 ((trn s.h 2 : Nat) : Int)] 2)
      obtain ⟨tb, htb⟩ : ∃ tb, tb = wo.heap.size := ⟨_, rfl⟩
      obtain ⟨W1, hW1⟩ : ∃ W1 : World, W1 = wo.alloc (.cells #[.int .i64 (s.h : Int), .int .i64 ((trn s.h 1 : Nat) : Int), .int .i64 ((trn s.h 2 : Nat) : Int)] 2) := ⟨_, rfl⟩
      rw [← hW1] at X11 X5 O B ⊢
      rw [← htb] at X11 hwo ⊢
      have HT : Hid (∀ k, k < 3 → ∀ W' : World, Bx W' tb #[.int .i64 (s.h : Int), .int .i64 ((trn s.h 1 : Nat) : Int), .int .i64 ((trn s.h 2 : Nat) : Int)] 2 → W'.cell? ⟨tb, k, none⟩ = some (.int .i64 ((trn s.h k : Nat) : Int))) := Lib.hid (fun k hk W' h => by
        match k, hk with
        | 0, _ => exact h.cell 0
        | 1, _ => exact h.cell 1
        | 2, _ => exact h.cell 2)
      have O' : OwnP W1 (w.heap.size + 1) v0 s.n s.c := O
      clear hW1 htb m1 m2 O
      have HE := Lib.hid (fun k W' hR => edgeS_any b s.x s.y (trn s.h k) G W' ⟨hx1, hx2⟩ ⟨hy1, hy2⟩ (trn_lt hh) hR)
      go_loopw [12] (fun t12 wr => ∃ k : Nat, k ≤ 3 ∧ t12 = .int .i64 (k : Int) ∧ Below w.heap.size w wr ∧ Bx wr w.heap.size #[.int .i8 s.x, .int .i8 s.y] 35 ∧ OwnP wr (w.heap.size + 1) v0 s.n s.c ∧ Bx wr tb #[.int .i64 (s.h : Int), .int .i64 ((trn s.h 1 : Nat) : Int), .int .i64 ((trn s.h 2 : Nat) : Int)] 2 ∧ (∀ j, j < k → wayJ G s.x s.y (trn s.h j) = false)) (fun t12 wr => 3 - (intOf t12).toNat)
      case atStart => exact ⟨0, by omega, by simp, B, X5, O', X11, fun j hj => by omega⟩
      case round =>
        clear B X5 O' X11
        obtain ⟨k, hk, rfl, B, X5, O, X11, hno⟩ := hrel
        obtain ⟨wo', rfl⟩ : ∃ wo' : World, wo' = wr := ⟨_, rfl⟩
        have HNO := Lib.hid hno
        clear hno
        by_cases hk3 : k < 3
        · have hki : (k : Int) ≤ 2 := by omega
          have hkj : (k : Int) < 3 := by omega
          have ct := HT.out k hk3 wo' X11
          have c0 := X5.cell 0
          have c1 := X5.cell 1
          simp only [List.getElem?_toArray, List.getElem?_cons_zero, List.getElem?_cons_succ] at c0 c1
          obtain ⟨z, hz⟩ : ∃ z, z = trn s.h k := ⟨_, rfl⟩
          rw [← hz] at ct
          obtain ⟨r, hr⟩ : ∃ r, r = wayJ G s.x s.y z := ⟨_, rfl⟩
          have HEE := HE.out k wo'.drew ((hG.of_block (B.block _ hG.lt)).of_block rfl)
          rw [← hz, ← hr] at HEE
          have HEE' := Lib.hid HEE
          have HZ := Lib.hid hz
          have HR := Lib.hid hr
          clear hz hr HEE
          go_wp2_with fail
          refine wp_region_held_drew (S := fun w' => w'.cell? ⟨w.heap.size, 0, none⟩ = some (.int .i8 s.x) ∧ w'.cell? ⟨w.heap.size, 1, none⟩ = some (.int .i8 s.y) ∧ w'.cell? ⟨tb, k, none⟩ = some (.int .i64 (z : Int))) (by kernel_rfl) ⟨c0, c1, ct⟩ (fun hHeld => ?_)
          refine wpAnyH_take (i := 0) (oi := _) (v := ?_) rfl (by kernel_rfl) (by kernel_rfl) (by kernel_rfl) (fun _ _ _ h => h) (Or.inl ⟨by kernel_rfl, ?_⟩) (by assumption) ?_
          rotate_left
          · intro w hSw; (try dsimp only at hSw); go_simp; first | done | with_reducible rfl
          try simp only [List.getElem_toArray, List.getElem_cons_zero, List.getElem_cons_succ, Act.put, List.setIfInBounds_toArray, List.set_cons_zero, List.set_cons_succ]
          refine wpAnyH_take (i := 1) (oi := _) (v := ?_) rfl (by kernel_rfl) (by kernel_rfl) (by kernel_rfl) (fun _ _ _ h => h) (Or.inl ⟨by kernel_rfl, ?_⟩) (by assumption) ?_
          rotate_left
          · intro w hSw; (try dsimp only at hSw); go_simp; first | done | with_reducible rfl
          try simp only [List.getElem_toArray, List.getElem_cons_zero, List.getElem_cons_succ, Act.put, List.setIfInBounds_toArray, List.set_cons_zero, List.set_cons_succ]
          refine wpAnyH_take (i := 2) (oi := _) (v := ?_) rfl (by kernel_rfl) (by kernel_rfl) (by kernel_rfl) (fun _ _ _ h => h) (Or.inl ⟨by kernel_rfl, ?_⟩) (by assumption) ?_
          rotate_left
          · intro w hSw; (try dsimp only at hSw); go_simp; first | done | with_reducible rfl
          try simp only [List.getElem_toArray, List.getElem_cons_zero, List.getElem_cons_succ, Act.put, List.setIfInBounds_toArray, List.set_cons_zero, List.set_cons_succ]
          refine wpAnyH_take (i := 3) (oi := _) (v := ?_) rfl (by kernel_rfl) (by kernel_rfl) (by kernel_rfl) (fun _ _ _ h => h) (Or.inl ⟨by kernel_rfl, ?_⟩) (by assumption) ?_
          rotate_left
          · intro w hSw; (try dsimp only at hSw); go_simp; first | done | with_reducible rfl
          try simp only [List.getElem_toArray, List.getElem_cons_zero, List.getElem_cons_succ, Act.put, List.setIfInBounds_toArray, List.set_cons_zero, List.set_cons_succ]
          refine wpAnyH_take (i := 4) (oi := _) (v := ?_) rfl (by kernel_rfl) (by kernel_rfl) (by kernel_rfl) (fun _ _ _ h => h) (Or.inl ⟨by kernel_rfl, ?_⟩) (by assumption) ?_
          rotate_left
          · intro w hSw; (try dsimp only at hSw); go_simp; first | done | with_reducible rfl
          try simp only [List.getElem_toArray, List.getElem_cons_zero, List.getElem_cons_succ, Act.put, List.setIfInBounds_toArray, List.set_cons_zero, List.set_cons_succ]
          refine wpAnyH_take (i := 5) (oi := _) (v := ?_) rfl (by kernel_rfl) (by kernel_rfl) (by kernel_rfl) (fun _ _ _ h => h) (Or.inl ⟨by kernel_rfl, ?_⟩) (by assumption) ?_
          rotate_left
          · intro w hSw; (try dsimp only at hSw); go_simp; first | done | with_reducible rfl
          try simp only [List.getElem_toArray, List.getElem_cons_zero, List.getElem_cons_succ, Act.put, List.setIfInBounds_toArray, List.set_cons_zero, List.set_cons_succ]
          refine wpAnyH_take (i := 6) (oi := _) (v := ?_) rfl (by kernel_rfl) (by kernel_rfl) (by kernel_rfl) (fun _ _ _ h => h) (Or.inl ⟨by kernel_rfl, ?_⟩) (by assumption) ?_
          rotate_left
          · intro w hSw; (try dsimp only at hSw); go_simp; first | done | with_reducible rfl
          try simp only [List.getElem_toArray, List.getElem_cons_zero, List.getElem_cons_succ, Act.put, List.setIfInBounds_toArray, List.set_cons_zero, List.set_cons_succ]
          refine wpAnyH_take (i := 7) (oi := _) (v := ?_) rfl (by kernel_rfl) (by kernel_rfl) (by kernel_rfl) (fun _ _ _ h => h) (Or.inl ⟨by kernel_rfl, ?_⟩) (by assumption) ?_
          rotate_left
          · intro w hSw; (try dsimp only at hSw); go_simp; first | done | with_reducible rfl
          try simp only [List.getElem_toArray, List.getElem_cons_zero, List.getElem_cons_succ, Act.put, List.setIfInBounds_toArray, List.set_cons_zero, List.set_cons_succ]
          refine wpAnyH_take (i := 8) (oi := _) (v := ?_) rfl (by kernel_rfl) (by kernel_rfl) (by kernel_rfl) (fun _ _ _ h => h) (Or.inl ⟨by kernel_rfl, ?_⟩) (by assumption) ?_
          rotate_left
          · intro w hSw; (try dsimp only at hSw); go_simp; first | done | with_reducible rfl
          try simp only [List.getElem_toArray, List.getElem_cons_zero, List.getElem_cons_succ, Act.put, List.setIfInBounds_toArray, List.set_cons_zero, List.set_cons_succ]
          refine wpAnyH_ready (rs := [9]) (by kernel_rfl) (by simp) ?_
          refine AllReadyH.cons (o := _) rfl (fun K hK => ?_) AllReadyH.nil
          go_simp
          refine (HEE'.out).mono ?_
          rintro e w3 ⟨rfl, hb⟩
          have c03 := cell_below (w_drew c0) hb
          have c13 := cell_below (w_drew c1) hb
          have ct3 := cell_below (w_drew ct) hb
          replace X5 := Bx.below (X5.drew) hb
          replace X11 := Bx.below (X11.drew) hb
          replace O := OwnP.belowD O hb
          replace B := nxt B.drew hb
          clear hb c0 c1 ct
          refine hK.out _ _ ⟨c03, c13, ct3⟩ (fun hHeld => ?_)
          clear hK K
          try simp only [List.getElem_toArray, List.getElem_cons_zero, List.getElem_cons_succ, Act.put, List.setIfInBounds_toArray, List.set_cons_zero, List.set_cons_succ]
          refine wpAnyH_take (i := 10) (oi := _) (v := ?_) rfl (by kernel_rfl) (by kernel_rfl) (by kernel_rfl) (fun _ _ _ h => h) (Or.inl ⟨by kernel_rfl, ?_⟩) (by assumption) ?_
          rotate_left
          · intro w hSw; (try dsimp only at hSw); go_simp; first | done | with_reducible rfl
          try simp only [List.getElem_toArray, List.getElem_cons_zero, List.getElem_cons_succ, Act.put, List.setIfInBounds_toArray, List.set_cons_zero, List.set_cons_succ]
          refine wpAnyH_take (i := 11) (oi := _) (v := ?_) rfl (by kernel_rfl) (by kernel_rfl) (by kernel_rfl) (fun _ _ _ h => h) (Or.inl ⟨by kernel_rfl, ?_⟩) (by assumption) ?_
          rotate_left
          · intro w hSw; (try dsimp only at hSw); go_simp; first | done | with_reducible rfl
          try simp only [List.getElem_toArray, List.getElem_cons_zero, List.getElem_cons_succ, Act.put, List.setIfInBounds_toArray, List.set_cons_zero, List.set_cons_succ]
          refine wpAnyH_done (by kernel_rfl) ?_ _
          clear c03 c13 ct3 HEE'
          cases r with
          | false =>
            go_wp2
            refine ⟨⟨k + 1, by omega, by first | go_num | simp, B, X5, O, X11, fun j hj => ?_⟩, by simp [intOf]; omega⟩
            by_cases e : j = k
            · subst e; rw [← HZ.out]; exact HR.out.symm
            · exact HNO.out j (by omega)
          | true =>
            have hf := fk_of (G := G) (x := s.x) (y := s.y) (h := s.h) (Nat.le_of_lt hk3) HNO.out (fun _ => by rw [← HZ.out]; exact HR.out.symm)
            have HFK := Lib.hid hf
            have hin := step_in (G := G) (by rw [HZ.out]; exact trn_lt hh) ⟨hx1, hx2⟩ ⟨hy1, hy2⟩ HR.out.symm
            have hz4 : z < 4 := by rw [HZ.out]; exact trn_lt hh
            have ct := HT.out k hk3 w3 X11
            rw [← HZ.out] at ct
            have c0 := X5.cell 0
            have c1 := X5.cell 1
            have d0 : ((k : Int) == 3) = false := by simp; omega
            have hkn : ¬ k = 3 := by omega
            simp only [List.getElem?_toArray, List.getElem?_cons_zero, List.getElem?_cons_succ] at c0 c1
            have HNX := Lib.hid (fun W' => nextS_any s.x s.y z W' (by omega) (by omega) hz4)
            obtain ⟨nx, hnx⟩ : ∃ nx, nx = stepX s.x z := ⟨_, rfl⟩
            obtain ⟨ny, hny⟩ : ∃ ny, ny = stepY s.y z := ⟨_, rfl⟩
            rw [← hnx, ← hny] at HNX hin
            have HXY := Lib.hid (And.intro hnx hny)
            clear hf hnx hny
            go_wp2_with fail
            refine (HNX.out _).mono ?_
            rintro e w4 ⟨rfl, hb⟩
            replace X5 := (X5.below hb).alloc (.cells #[.int .i8 nx, .int .i8 ny] 35)
            replace O := World.ownsRow.alloc (O.below hb) (.cells #[.int .i8 nx, .int .i8 ny] 35)
            replace B := al (nxt B hb) (.cells #[.int .i8 nx, .int .i8 ny] 35)
            have X13 := Bx.new w4 #[.int .i8 nx, .int .i8 ny] 35
            have O' : OwnP (w4.alloc (.cells #[.int .i8 nx, .int .i8 ny] 35)) (w.heap.size + 1) v0 s.n s.c := O
            clear O hb ct c0 c1 X11
            obtain ⟨W5, hW5⟩ : ∃ W5 : World, W5 = w4.alloc (.cells #[.int .i8 nx, .int .i8 ny] 35) := ⟨_, rfl⟩
            rw [← hW5] at X5 O' B X13
            obtain ⟨A, cap, rfl, hcap⟩ := O'.shape
            obtain ⟨r2, er2⟩ := dec_exB (HasPt s.n (PX s.c) (PY s.c) nx ny)
            have HH := Lib.hid (l06Has_any A s.n cap (PX s.c) (PY s.c) nx ny r2 W5 (by omega) hcap O'.rdP er2)
            have ER2 := Lib.hid er2
            clear er2
            go_wp2_with fail
            rw [← hW5]
            clear hW5
            refine HH.out.mono ?_
            rintro e w6 ⟨rfl, hb⟩
            replace X5 := X5.below hb
            replace X13 := X13.below hb
            replace O' := O'.below hb
            replace B := nxt B hb
            clear hb HH
            have hn3 : k ≠ 3 := hkn
            cases r2 with
            | true =>
              have hstep : gst G x0 y0 h0 (n + 1) = { gst G x0 y0 h0 n with stop := true } := by
                show gstep G (gst G x0 y0 h0 n) = _
                rw [← HS.out]
                exact gstep_has HST.out HFK.out hn3 (by rw [← HZ.out, ← HXY.out.1, ← HXY.out.2]; exact ER2.out.1 (by trivial))
              have hend := gst_ends hstep hlt
              rw [← HS.out] at hend
              have HEND := Lib.hid hend
              have hO := Lib.hid (World.ownsRow.mono O' (show w.heap.size ≤ w.heap.size + 1 by omega))
              clear hstep hend
              go_wp2
              go_ret
              refine ⟨B, _, rfl, ?_⟩
              rw [HEND.out.1, HEND.out.2]
              exact hO.out
            | false =>
              have hstep : gst G x0 y0 h0 (n + 1) = ⟨nx, ny, z, s.n + 1, appP s.c s.n nx ny, false⟩ := by
                show gstep G (gst G x0 y0 h0 n) = _
                rw [← HS.out, gstep_go HST.out HFK.out hn3 (by rw [← HZ.out, ← HXY.out.1, ← HXY.out.2]; exact fun h => absurd (ER2.out.2 h) (by decide)), ← HZ.out, ← HXY.out.1, ← HXY.out.2]
              have HSTEP := Lib.hid hstep
              clear hstep
              have f50 := X5.frozen 0
              have f51 := X5.frozen 1
              have s50 := X5.cell 0
              have s51 := X5.cell 1
              have c130 := X13.cell 0
              have c131 := X13.cell 1
              simp only [List.getElem?_toArray, List.getElem?_cons_zero, List.getElem?_cons_succ] at s50 s51 c130 c131
              have Y5 := (X5.set 0 (.int .i8 nx)).set 1 (.int .i8 ny)
              have B7 := (B.setCell (p := ⟨w.heap.size, 0, none⟩) (by simp) (.int .i8 nx)).setCell (p := ⟨w.heap.size, 1, none⟩) (by simp) (.int .i8 ny)
              have O7 : OwnP ((w6.setCell ⟨w.heap.size, 0, none⟩ (.int .i8 nx)).setCell ⟨w.heap.size, 1, none⟩ (.int .i8 ny)) (w.heap.size + 1) (.slice A s.n cap) s.n s.c := by
                refine ⟨O'.1, O'.2.imp id ?_⟩
                rintro ⟨g, cap', cur, h1, h2, h3, h4⟩
                refine ⟨g, cap', cur, h1, h2, ?_, h4⟩
                rw [Below.heap_setCell _ _ _ g (by simp; omega), Below.heap_setCell _ _ _ g (by simp; omega)]
                exact h3
              obtain ⟨W7, hW7⟩ : ∃ W7 : World, W7 = (w6.setCell ⟨w.heap.size, 0, none⟩ (.int .i8 nx)).setCell ⟨w.heap.size, 1, none⟩ (.int .i8 ny) := ⟨_, rfl⟩
              rw [← hW7] at Y5 B7 O7
              have hO7 := Lib.hid O7
              have hl7 : w.heap.size + 1 ≤ W7.heap.size := Y5.lt
              have hns2 : s.n ≤ 61 := by omega
              have hsz7 : W7.heap.size = w6.heap.size := by rw [hW7]; simp [World.setCell]
              have HNC := Lib.hid (new_cells W7 #[.int .i8 nx, .int .i8 ny] 35)
              rw [hsz7] at HNC
              clear O' B O7 X5 X13
              go_wp2_with (at_builtin; rw [← hW7]; refine wpList_append_own _ rfl _ _ 53 rfl (w.heap.size + 1) 35 i0 (.agg #[.int .i8 0, .int .i8 0]) 2 2 Tryd.underlying53 hi hz0 hz1 hz2 rfl (by decide) _ _ _ rfl (World.ownsRow.alloc hO7.out _) ⟨w6.heap.size, 0, none⟩ 1 1 [.int .i8 nx, .int .i8 ny] rfl rfl HNC.out one_ints (by unfold maxLen; omega) (by omega) (by simp; omega) ?_; intro v' w1 own' hgr _; clear hW7)
              have B1 : Below w.heap.size w w1 := (al B7 _).grown hgr (al B7 _).size (fun k e => by have := (World.ownsRow.lt hO7.out k e).1; omega)
              have X51 : Bx w1 w.heap.size #[.int .i8 nx, .int .i8 ny] 35 := (Bx.alloc (show Bx W7 w.heap.size #[.int .i8 nx, .int .i8 ny] 35 from Y5) _).of_block (hgr.block _ (by simp; omega) (fun e => by have := (World.ownsRow.lt hO7.out _ e.symm).1; omega))
              have O1 : OwnP w1 (w.heap.size + 1) v' (s.n + 1) (appP s.c s.n nx ny) := by
                rw [rowV_snoc] at own'
                exact own'
              clear own' hgr Y5 B7 hO7
              go_wp2
              refine ⟨⟨n + 1, by omega, by first | go_num | simp, by rw [HSTEP.out], by rw [HSTEP.out], B1, by rw [HSTEP.out]; exact X51, by rw [HSTEP.out]; exact O1⟩, by simp [intOf]; omega⟩
        · obtain rfl : k = 3 := by omega
          have HFK := Lib.hid (fk_of (G := G) (x := s.x) (y := s.y) (h := s.h) (Nat.le_refl 3) HNO.out (fun h => absurd h (by omega)))
          have hstep : gst G x0 y0 h0 (n + 1) = { gst G x0 y0 h0 n with stop := true } := by
            show gstep G (gst G x0 y0 h0 n) = _
            rw [← HS.out]
            exact gstep_none HST.out HFK.out
          have hend := gst_ends hstep hlt
          rw [← HS.out] at hend
          have HEND := Lib.hid hend
          have hO := Lib.hid (World.ownsRow.mono O (show w.heap.size ≤ w.heap.size + 1 by omega))
          clear hstep hend
          go_wp2_with fail
          refine wp_region_held_drew (S := (fun _ : World => True)) (by kernel_rfl) trivial (fun hHeld => ?_)
          refine wpAnyH_take (i := 0) (oi := _) (v := ?_) rfl (by kernel_rfl) (by kernel_rfl) (by kernel_rfl) (fun _ _ _ h => h) (Or.inl ⟨by kernel_rfl, ?_⟩) (by assumption) ?_
          rotate_left
          · intro w hSw; (try dsimp only at hSw); go_simp; first | done | with_reducible rfl
          try simp only [List.getElem_toArray, List.getElem_cons_zero, List.getElem_cons_succ, Act.put, List.setIfInBounds_toArray, List.set_cons_zero, List.set_cons_succ]
          refine wpAnyH_take (i := 1) (oi := _) (v := ?_) rfl (by kernel_rfl) (by kernel_rfl) (by kernel_rfl) (fun _ _ _ h => h) (Or.inl ⟨by kernel_rfl, ?_⟩) (by assumption) ?_
          rotate_left
          · intro w hSw; (try dsimp only at hSw); go_simp; first | done | with_reducible rfl
          try simp only [List.getElem_toArray, List.getElem_cons_zero, List.getElem_cons_succ, Act.put, List.setIfInBounds_toArray, List.set_cons_zero, List.set_cons_succ]
          refine wpAnyH_take (i := 2) (oi := _) (v := ?_) rfl (by kernel_rfl) (by kernel_rfl) (by kernel_rfl) (fun _ _ _ h => h) (Or.inl ⟨by kernel_rfl, ?_⟩) (by assumption) ?_
          rotate_left
          · intro w hSw; (try dsimp only at hSw); go_simp; first | done | with_reducible rfl
          try simp only [List.getElem_toArray, List.getElem_cons_zero, List.getElem_cons_succ, Act.put, List.setIfInBounds_toArray, List.set_cons_zero, List.set_cons_succ]
          refine wpAnyH_take (i := 3) (oi := _) (v := undef) rfl (by kernel_rfl) (by kernel_rfl) (by kernel_rfl) (fun _ _ _ h => h) (Or.inr ⟨by kernel_rfl, rfl⟩) (by assumption) ?_
          try simp only [List.getElem_toArray, List.getElem_cons_zero, List.getElem_cons_succ, Act.put, List.setIfInBounds_toArray, List.set_cons_zero, List.set_cons_succ]
          refine wpAnyH_take (i := 4) (oi := _) (v := undef) rfl (by kernel_rfl) (by kernel_rfl) (by kernel_rfl) (fun _ _ _ h => h) (Or.inr ⟨by kernel_rfl, rfl⟩) (by assumption) ?_
          try simp only [List.getElem_toArray, List.getElem_cons_zero, List.getElem_cons_succ, Act.put, List.setIfInBounds_toArray, List.set_cons_zero, List.set_cons_succ]
          refine wpAnyH_take (i := 5) (oi := _) (v := undef) rfl (by kernel_rfl) (by kernel_rfl) (by kernel_rfl) (fun _ _ _ h => h) (Or.inr ⟨by kernel_rfl, rfl⟩) (by assumption) ?_
          try simp only [List.getElem_toArray, List.getElem_cons_zero, List.getElem_cons_succ, Act.put, List.setIfInBounds_toArray, List.set_cons_zero, List.set_cons_succ]
          refine wpAnyH_take (i := 6) (oi := _) (v := undef) rfl (by kernel_rfl) (by kernel_rfl) (by kernel_rfl) (fun _ _ _ h => h) (Or.inr ⟨by kernel_rfl, rfl⟩) (by assumption) ?_
          try simp only [List.getElem_toArray, List.getElem_cons_zero, List.getElem_cons_succ, Act.put, List.setIfInBounds_toArray, List.set_cons_zero, List.set_cons_succ]
          refine wpAnyH_take (i := 7) (oi := _) (v := undef) rfl (by kernel_rfl) (by kernel_rfl) (by kernel_rfl) (fun _ _ _ h => h) (Or.inr ⟨by kernel_rfl, rfl⟩) (by assumption) ?_
          try simp only [List.getElem_toArray, List.getElem_cons_zero, List.getElem_cons_succ, Act.put, List.setIfInBounds_toArray, List.set_cons_zero, List.set_cons_succ]
          refine wpAnyH_take (i := 8) (oi := _) (v := undef) rfl (by kernel_rfl) (by kernel_rfl) (by kernel_rfl) (fun _ _ _ h => h) (Or.inr ⟨by kernel_rfl, rfl⟩) (by assumption) ?_
          try simp only [List.getElem_toArray, List.getElem_cons_zero, List.getElem_cons_succ, Act.put, List.setIfInBounds_toArray, List.set_cons_zero, List.set_cons_succ]
          refine wpAnyH_take (i := 9) (oi := _) (v := undef) rfl (by kernel_rfl) (by kernel_rfl) (by kernel_rfl) (fun _ _ _ h => h) (Or.inr ⟨by kernel_rfl, rfl⟩) (by assumption) ?_
          try simp only [List.getElem_toArray, List.getElem_cons_zero, List.getElem_cons_succ, Act.put, List.setIfInBounds_toArray, List.set_cons_zero, List.set_cons_succ]
          refine wpAnyH_take (i := 10) (oi := _) (v := undef) rfl (by kernel_rfl) (by kernel_rfl) (by kernel_rfl) (fun _ _ _ h => h) (Or.inr ⟨by kernel_rfl, rfl⟩) (by assumption) ?_
          try simp only [List.getElem_toArray, List.getElem_cons_zero, List.getElem_cons_succ, Act.put, List.setIfInBounds_toArray, List.set_cons_zero, List.set_cons_succ]
          refine wpAnyH_take (i := 11) (oi := _) (v := ?_) rfl (by kernel_rfl) (by kernel_rfl) (by kernel_rfl) (fun _ _ _ h => h) (Or.inl ⟨by kernel_rfl, ?_⟩) (by assumption) ?_
          rotate_left
          · intro w hSw; (try dsimp only at hSw); go_simp; first | done | with_reducible rfl
          try simp only [List.getElem_toArray, List.getElem_cons_zero, List.getElem_cons_succ, Act.put, List.setIfInBounds_toArray, List.set_cons_zero, List.set_cons_succ]
          refine wpAnyH_done (by kernel_rfl) ?_ _
          go_wp2
          go_ret
          refine ⟨B.drew, _, rfl, ?_⟩
          rw [HEND.out.1, HEND.out.2]
          exact hO.out
    · obtain rfl : n = years := by omega
      have hO := Lib.hid (World.ownsRow.mono O (show w.heap.size ≤ w.heap.size + 1 by omega))
      go_wp2
      go_ret
      refine ⟨B, _, rfl, ?_⟩
      rw [← HS.out]
      exact hO.out
end Go.Proofs.YtmkcdelfgaogaaaDoor

namespace Go.Proofs.YtmkcdelfgaogaaaDoor
open Go Go.ChangeShapes Go.WideShapes Go.ChangeAt Go.RowKit
set_option linter.unusedVariables false
set_option linter.unusedSimpArgs false
set_option maxRecDepth 100000
set_option maxHeartbeats 4000000

theorem betw_stp {G : Nat → Int} {x y : Int} {k : Nat} (hk : k < 4) : betw G x y (stepX x k) (stepY y k) = wayJ G x y k := by
  refine betw_at hk (fun j hj => ?_) ⟨rfl, rfl⟩
  unfold isE stepX stepY
  match k, j, hk, hj with
  | 1, 0, _, _ => simp; omega
  | 2, 0, _, _ => simp; omega
  | 2, 1, _, _ => simp; omega
  | 3, 0, _, _ => simp; omega
  | 3, 1, _, _ => simp; omega
  | 3, 2, _, _ => simp; omega
theorem str_any (h : Nat) (w : World) (hh : h < 4) : Calls Tryd.prog 86 #[.int .i64 (h : Int)] w fun e w' => e = .returned (.int .i64 ((trn h 0 : Nat) : Int)) ∧ w' = w := by
  go_enter Tryd.func86, Tryd.ntmps86
  go_wp2
  go_ret
  exact ⟨rfl, rfl⟩
theorem lef_any (h : Nat) (w : World) (hh : h < 4) : Calls Tryd.prog 87 #[.int .i64 (h : Int)] w fun e w' => e = .returned (.int .i64 ((trn h 1 : Nat) : Int)) ∧ w' = w := by
  have m1 : ((h : Int) + 3) % 4 = ((trn h 1 : Nat) : Int) := by unfold trn; simp
  go_enter Tryd.func87, Tryd.ntmps87
  go_wp2
  go_ret
  exact ⟨by rw [← m1]; rfl, rfl⟩
theorem rig_any (h : Nat) (w : World) (hh : h < 4) : Calls Tryd.prog 88 #[.int .i64 (h : Int)] w fun e w' => e = .returned (.int .i64 ((trn h 2 : Nat) : Int)) ∧ w' = w := by
  have m1 : ((h : Int) + 1) % 4 = ((trn h 2 : Nat) : Int) := by unfold trn; simp
  go_enter Tryd.func88, Tryd.ntmps88
  go_wp2
  go_ret
  exact ⟨by rw [← m1]; rfl, rfl⟩
/-- what next answers. -/
def NxPost (G : Nat → Int) (x y : Int) (h : Nat) (w : World) (e : Ending) (w' : World) : Prop :=
  Below w.heap.size w w' ∧ ∃ k, fk G x y h = k ∧ ((k < 3 ∧ e = .returned (.tuple #[.agg #[.int .i8 (stepX x (trn h k)), .int .i8 (stepY y (trn h k)), .int .i64 ((trn h k : Nat) : Int)], .bool true])) ∨ (k = 3 ∧ e = .returned (.tuple #[.agg #[.int .i8 0, .int .i8 0, .int .i64 0], .bool false])))
theorem next_any (m : Nat) (L : List En) (G : Nat → Int) (x y : Int) (h : Nat) (w : World) (hx : 0 ≤ x ∧ x ≤ 12) (hy : 0 ≤ y ∧ y ≤ 12) (hh : h < 4) (hM : EMap w m L) (hL : ∀ ax ay bx by_, hasK L (edE ax ay bx by_) = betw G ax ay bx by_) :
    Calls Tryd.prog 66 #[.map (some m), .agg #[.int .i8 x, .int .i8 y, .int .i64 (h : Int)]] w (NxPost G x y h w) := by
  have X3 := (Bx.new w #[.int .i8 x, .int .i8 y, .int .i64 (h : Int)] 92).alloc (.cells #[.int .i8 0, .int .i8 0, .int .i64 0] 92)
  have X4 := Bx.new (w.alloc (.cells #[.int .i8 x, .int .i8 y, .int .i64 (h : Int)] 92)) #[.int .i8 0, .int .i8 0, .int .i64 0] 92
  have B := al (al (Below.refl w.heap.size w) (.cells #[.int .i8 x, .int .i8 y, .int .i64 (h : Int)] 92)) (.cells #[.int .i8 0, .int .i8 0, .int .i64 0] 92)
  have e1 : (w.alloc (.cells #[.int .i8 x, .int .i8 y, .int .i64 (h : Int)] 92)).heap.size = w.heap.size + 1 := by simp
  rw [e1] at X4
  obtain ⟨W0, hW0⟩ : ∃ W0 : World, W0 = (w.alloc (.cells #[.int .i8 x, .int .i8 y, .int .i64 (h : Int)] 92)).alloc (.cells #[.int .i8 0, .int .i8 0, .int .i64 0] 92) := ⟨_, rfl⟩
  rw [← hW0] at X3 X4 B
  have HL := Lib.hid hL
  clear hL e1
  go_enter Tryd.func66, Tryd.ntmps66
  go_wp2_with fail
  rw [← hW0]
  clear hW0
  go_loopw [7, 8, 9, 11] (fun t7 t8 t9 t11 wr => ∃ k : Nat, k ≤ 3 ∧ t11 = .int .i64 (k : Int) ∧ Below w.heap.size w wr ∧ Bx wr w.heap.size #[.int .i8 x, .int .i8 y, .int .i64 (h : Int)] 92 ∧ Bx wr (w.heap.size + 1) #[.int .i8 0, .int .i8 0, .int .i64 0] 92 ∧ (∀ j, j < k → wayJ G x y (trn h j) = false)) (fun t7 t8 t9 t11 wr => 3 - (intOf t11).toNat)
  case atStart => exact ⟨0, by omega, by simp, B, X3, X4, fun j hj => by omega⟩
  case round =>
    clear B X3 X4
    obtain ⟨k, hk, rfl, B, X3, X4, hno⟩ := hrel
    obtain ⟨wo, rfl⟩ : ∃ wo : World, wo = wr := ⟨_, rfl⟩
    have HNO := Lib.hid hno
    clear hno
    have p3 := X3.cell 0
    have q3 := X3.cell 1
    have r3 := X3.cell 2
    simp only [List.getElem?_toArray, List.getElem?_cons_zero, List.getElem?_cons_succ] at p3 q3 r3
    have hk4 : k = 0 ∨ k = 1 ∨ k = 2 ∨ k = 3 := by omega
    have tail : Hid (∀ k, k < 3 → ∀ z, z = trn h k → z < 4 ∧ (0 ≤ x ∧ x ≤ 12) ∧ (0 ≤ y ∧ y ≤ 12)) := Lib.hid fun k _ z hz => ⟨by rw [hz]; exact trn_lt hh, hx, hy⟩
    rcases hk4 with rfl | rfl | rfl | rfl
    · obtain ⟨z, hz⟩ : ∃ z, z = trn h 0 := ⟨_, rfl⟩
      obtain ⟨hz4, _, _⟩ := tail.out 0 (by omega) z hz
      have hjl := (HL.out x y (stepX x z) (stepY y z)).trans (betw_stp (G := G) (x := x) (y := y) hz4)
      have hb8 : (-128 ≤ stepX x z ∧ stepX x z ≤ 127) ∧ (-128 ≤ stepY y z ∧ stepY y z ≤ 127) := by
        unfold stepX stepY
        refine ⟨?_, ?_⟩ <;> split <;> (try split) <;> omega
      have hix : (Instr.index 147 (.agg #[.func (.func 86) #[] #[], .func (.func 87) #[] #[], .func (.func 88) #[] #[]]) (.int .i64 0)).run Tryd.prog wo = .ok (.func (.func 86) #[] #[]) wo := by kernel_rfl
      have HT := Lib.hid (str_any h wo hh)
      rw [← hz] at HT
      have HA := Lib.hid (ahead_any x y z wo (by omega) (by omega) hz4)
      obtain ⟨nx, hnx⟩ : ∃ nx, nx = stepX x z := ⟨_, rfl⟩
      obtain ⟨ny, hny⟩ : ∃ ny, ny = stepY y z := ⟨_, rfl⟩
      rw [← hnx, ← hny] at hjl hb8 HA
      obtain ⟨r, hr⟩ : ∃ r, r = wayJ G x y z := ⟨_, rfl⟩
      rw [← hr] at hjl
      have HH := fun W' (hm : EMap W' m L) => jhas_any m L x y nx ny W' (by omega) (by omega) hb8.1 hb8.2 hm
      rw [hjl] at HH
      have HH' := Lib.hid HH
      have HXY := Lib.hid (And.intro hnx hny)
      have HZ := Lib.hid hz
      have HR := Lib.hid hr
      have ZM := hM.below B hM.lt
      clear hz hnx hny hr HH hjl hb8
      go_wp2_with fail
      refine HT.out.mono ?_
      rintro e w1 ⟨rfl, hw1⟩
      replace hw1 := hw1.symm
      subst hw1
      go_wp2_with fail
      refine HA.out.mono ?_
      rintro e w4 ⟨rfl, hb⟩
      replace X3 := (X3.below hb).alloc (.cells #[.int .i8 nx, .int .i8 ny] 35)
      replace X4 := (X4.below hb).alloc (.cells #[.int .i8 nx, .int .i8 ny] 35)
      replace ZM := (ZM.of_block (hb.block _ ZM.lt)).alloc (.cells #[.int .i8 nx, .int .i8 ny] 35)
      replace B := al (nxt B hb) (.cells #[.int .i8 nx, .int .i8 ny] 35)
      have X9 := Bx.new w4 #[.int .i8 nx, .int .i8 ny] 35
      clear hb HT HA p3 q3 r3
      obtain ⟨W5, hW5⟩ : ∃ W5 : World, W5 = w4.alloc (.cells #[.int .i8 nx, .int .i8 ny] 35) := ⟨_, rfl⟩
      rw [← hW5] at X3 X4 ZM B X9
      have p3 := X3.cell 0
      have q3 := X3.cell 1
      simp only [List.getElem?_toArray, List.getElem?_cons_zero, List.getElem?_cons_succ] at p3 q3
      rw [hW5] at p3 q3
      go_wp2_with fail
      rw [← hW5]
      clear hW5 p3 q3
      refine (HH'.out _ ZM).mono ?_
      rintro e w6 ⟨rfl, hb⟩
      replace X3 := X3.below hb
      replace X4 := X4.below hb
      replace X9 := X9.below hb
      replace B := nxt B hb
      clear hb HH' ZM
      cases r with
      | false =>
        go_wp2
        refine ⟨⟨1, by omega, by first | go_num | simp, B, X3, X4, fun j hj => ?_⟩, by simp [intOf]⟩
        by_cases e : j = 0
        · subst e; rw [← HZ.out]; exact HR.out.symm
        · exact HNO.out j (by omega)
      | true =>
        have HFK := Lib.hid (fk_of (G := G) (x := x) (y := y) (h := h) (show 0 ≤ 3 by omega) HNO.out (fun _ => by rw [← HZ.out]; exact HR.out.symm))
        have f40 := X4.frozen 0
        have f41 := X4.frozen 1
        have f42 := X4.frozen 2
        have s40 := X4.cell 0
        have s41 := X4.cell 1
        have s42 := X4.cell 2
        have c90 := X9.cell 0
        have c91 := X9.cell 1
        simp only [List.getElem?_toArray, List.getElem?_cons_zero, List.getElem?_cons_succ] at s40 s41 s42 c90 c91
        go_wp2
        have Y4 := ((X4.set 0 (.int .i8 nx)).set 1 (.int .i8 ny)).set 2 (.int .i64 (z : Int))
        have q40 := Y4.cell 0
        have q41 := Y4.cell 1
        have q42 := Y4.cell 2
        simp at q40 q41 q42
        exact bodyPost_ret (v := .tuple #[.agg #[.int .i8 nx, .int .i8 ny, .int .i64 (z : Int)], .bool true]) (by simp [results, Tryd.results66, go_sem, q40, q41, q42]) rfl ⟨((B.setCell (p := ⟨w.heap.size + 1, 0, none⟩) (by simp) (.int .i8 nx)).setCell (p := ⟨w.heap.size + 1, 1, none⟩) (by simp) (.int .i8 ny)).setCell (p := ⟨w.heap.size + 1, 2, none⟩) (by simp) (.int .i64 (z : Int)), 0, HFK.out, .inl ⟨by omega, by rw [← HZ.out, ← HXY.out.1, ← HXY.out.2]⟩⟩
    · obtain ⟨z, hz⟩ : ∃ z, z = trn h 1 := ⟨_, rfl⟩
      obtain ⟨hz4, _, _⟩ := tail.out 1 (by omega) z hz
      have hjl := (HL.out x y (stepX x z) (stepY y z)).trans (betw_stp (G := G) (x := x) (y := y) hz4)
      have hb8 : (-128 ≤ stepX x z ∧ stepX x z ≤ 127) ∧ (-128 ≤ stepY y z ∧ stepY y z ≤ 127) := by
        unfold stepX stepY
        refine ⟨?_, ?_⟩ <;> split <;> (try split) <;> omega
      have hix : (Instr.index 147 (.agg #[.func (.func 86) #[] #[], .func (.func 87) #[] #[], .func (.func 88) #[] #[]]) (.int .i64 1)).run Tryd.prog wo = .ok (.func (.func 87) #[] #[]) wo := by kernel_rfl
      have HT := Lib.hid (lef_any h wo hh)
      rw [← hz] at HT
      have HA := Lib.hid (ahead_any x y z wo (by omega) (by omega) hz4)
      obtain ⟨nx, hnx⟩ : ∃ nx, nx = stepX x z := ⟨_, rfl⟩
      obtain ⟨ny, hny⟩ : ∃ ny, ny = stepY y z := ⟨_, rfl⟩
      rw [← hnx, ← hny] at hjl hb8 HA
      obtain ⟨r, hr⟩ : ∃ r, r = wayJ G x y z := ⟨_, rfl⟩
      rw [← hr] at hjl
      have HH := fun W' (hm : EMap W' m L) => jhas_any m L x y nx ny W' (by omega) (by omega) hb8.1 hb8.2 hm
      rw [hjl] at HH
      have HH' := Lib.hid HH
      have HXY := Lib.hid (And.intro hnx hny)
      have HZ := Lib.hid hz
      have HR := Lib.hid hr
      have ZM := hM.below B hM.lt
      clear hz hnx hny hr HH hjl hb8
      go_wp2_with fail
      refine HT.out.mono ?_
      rintro e w1 ⟨rfl, hw1⟩
      replace hw1 := hw1.symm
      subst hw1
      go_wp2_with fail
      refine HA.out.mono ?_
      rintro e w4 ⟨rfl, hb⟩
      replace X3 := (X3.below hb).alloc (.cells #[.int .i8 nx, .int .i8 ny] 35)
      replace X4 := (X4.below hb).alloc (.cells #[.int .i8 nx, .int .i8 ny] 35)
      replace ZM := (ZM.of_block (hb.block _ ZM.lt)).alloc (.cells #[.int .i8 nx, .int .i8 ny] 35)
      replace B := al (nxt B hb) (.cells #[.int .i8 nx, .int .i8 ny] 35)
      have X9 := Bx.new w4 #[.int .i8 nx, .int .i8 ny] 35
      clear hb HT HA p3 q3 r3
      obtain ⟨W5, hW5⟩ : ∃ W5 : World, W5 = w4.alloc (.cells #[.int .i8 nx, .int .i8 ny] 35) := ⟨_, rfl⟩
      rw [← hW5] at X3 X4 ZM B X9
      have p3 := X3.cell 0
      have q3 := X3.cell 1
      simp only [List.getElem?_toArray, List.getElem?_cons_zero, List.getElem?_cons_succ] at p3 q3
      rw [hW5] at p3 q3
      go_wp2_with fail
      rw [← hW5]
      clear hW5 p3 q3
      refine (HH'.out _ ZM).mono ?_
      rintro e w6 ⟨rfl, hb⟩
      replace X3 := X3.below hb
      replace X4 := X4.below hb
      replace X9 := X9.below hb
      replace B := nxt B hb
      clear hb HH' ZM
      cases r with
      | false =>
        go_wp2
        refine ⟨⟨2, by omega, by first | go_num | simp, B, X3, X4, fun j hj => ?_⟩, by simp [intOf]⟩
        by_cases e : j = 1
        · subst e; rw [← HZ.out]; exact HR.out.symm
        · exact HNO.out j (by omega)
      | true =>
        have HFK := Lib.hid (fk_of (G := G) (x := x) (y := y) (h := h) (show 1 ≤ 3 by omega) HNO.out (fun _ => by rw [← HZ.out]; exact HR.out.symm))
        have f40 := X4.frozen 0
        have f41 := X4.frozen 1
        have f42 := X4.frozen 2
        have s40 := X4.cell 0
        have s41 := X4.cell 1
        have s42 := X4.cell 2
        have c90 := X9.cell 0
        have c91 := X9.cell 1
        simp only [List.getElem?_toArray, List.getElem?_cons_zero, List.getElem?_cons_succ] at s40 s41 s42 c90 c91
        go_wp2
        have Y4 := ((X4.set 0 (.int .i8 nx)).set 1 (.int .i8 ny)).set 2 (.int .i64 (z : Int))
        have q40 := Y4.cell 0
        have q41 := Y4.cell 1
        have q42 := Y4.cell 2
        simp at q40 q41 q42
        exact bodyPost_ret (v := .tuple #[.agg #[.int .i8 nx, .int .i8 ny, .int .i64 (z : Int)], .bool true]) (by simp [results, Tryd.results66, go_sem, q40, q41, q42]) rfl ⟨((B.setCell (p := ⟨w.heap.size + 1, 0, none⟩) (by simp) (.int .i8 nx)).setCell (p := ⟨w.heap.size + 1, 1, none⟩) (by simp) (.int .i8 ny)).setCell (p := ⟨w.heap.size + 1, 2, none⟩) (by simp) (.int .i64 (z : Int)), 1, HFK.out, .inl ⟨by omega, by rw [← HZ.out, ← HXY.out.1, ← HXY.out.2]⟩⟩
    · obtain ⟨z, hz⟩ : ∃ z, z = trn h 2 := ⟨_, rfl⟩
      obtain ⟨hz4, _, _⟩ := tail.out 2 (by omega) z hz
      have hjl := (HL.out x y (stepX x z) (stepY y z)).trans (betw_stp (G := G) (x := x) (y := y) hz4)
      have hb8 : (-128 ≤ stepX x z ∧ stepX x z ≤ 127) ∧ (-128 ≤ stepY y z ∧ stepY y z ≤ 127) := by
        unfold stepX stepY
        refine ⟨?_, ?_⟩ <;> split <;> (try split) <;> omega
      have hix : (Instr.index 147 (.agg #[.func (.func 86) #[] #[], .func (.func 87) #[] #[], .func (.func 88) #[] #[]]) (.int .i64 2)).run Tryd.prog wo = .ok (.func (.func 88) #[] #[]) wo := by kernel_rfl
      have HT := Lib.hid (rig_any h wo hh)
      rw [← hz] at HT
      have HA := Lib.hid (ahead_any x y z wo (by omega) (by omega) hz4)
      obtain ⟨nx, hnx⟩ : ∃ nx, nx = stepX x z := ⟨_, rfl⟩
      obtain ⟨ny, hny⟩ : ∃ ny, ny = stepY y z := ⟨_, rfl⟩
      rw [← hnx, ← hny] at hjl hb8 HA
      obtain ⟨r, hr⟩ : ∃ r, r = wayJ G x y z := ⟨_, rfl⟩
      rw [← hr] at hjl
      have HH := fun W' (hm : EMap W' m L) => jhas_any m L x y nx ny W' (by omega) (by omega) hb8.1 hb8.2 hm
      rw [hjl] at HH
      have HH' := Lib.hid HH
      have HXY := Lib.hid (And.intro hnx hny)
      have HZ := Lib.hid hz
      have HR := Lib.hid hr
      have ZM := hM.below B hM.lt
      clear hz hnx hny hr HH hjl hb8
      go_wp2_with fail
      refine HT.out.mono ?_
      rintro e w1 ⟨rfl, hw1⟩
      replace hw1 := hw1.symm
      subst hw1
      go_wp2_with fail
      refine HA.out.mono ?_
      rintro e w4 ⟨rfl, hb⟩
      replace X3 := (X3.below hb).alloc (.cells #[.int .i8 nx, .int .i8 ny] 35)
      replace X4 := (X4.below hb).alloc (.cells #[.int .i8 nx, .int .i8 ny] 35)
      replace ZM := (ZM.of_block (hb.block _ ZM.lt)).alloc (.cells #[.int .i8 nx, .int .i8 ny] 35)
      replace B := al (nxt B hb) (.cells #[.int .i8 nx, .int .i8 ny] 35)
      have X9 := Bx.new w4 #[.int .i8 nx, .int .i8 ny] 35
      clear hb HT HA p3 q3 r3
      obtain ⟨W5, hW5⟩ : ∃ W5 : World, W5 = w4.alloc (.cells #[.int .i8 nx, .int .i8 ny] 35) := ⟨_, rfl⟩
      rw [← hW5] at X3 X4 ZM B X9
      have p3 := X3.cell 0
      have q3 := X3.cell 1
      simp only [List.getElem?_toArray, List.getElem?_cons_zero, List.getElem?_cons_succ] at p3 q3
      rw [hW5] at p3 q3
      go_wp2_with fail
      rw [← hW5]
      clear hW5 p3 q3
      refine (HH'.out _ ZM).mono ?_
      rintro e w6 ⟨rfl, hb⟩
      replace X3 := X3.below hb
      replace X4 := X4.below hb
      replace X9 := X9.below hb
      replace B := nxt B hb
      clear hb HH' ZM
      cases r with
      | false =>
        go_wp2
        refine ⟨⟨3, by omega, by first | go_num | simp, B, X3, X4, fun j hj => ?_⟩, by simp [intOf]⟩
        by_cases e : j = 2
        · subst e; rw [← HZ.out]; exact HR.out.symm
        · exact HNO.out j (by omega)
      | true =>
        have HFK := Lib.hid (fk_of (G := G) (x := x) (y := y) (h := h) (show 2 ≤ 3 by omega) HNO.out (fun _ => by rw [← HZ.out]; exact HR.out.symm))
        have f40 := X4.frozen 0
        have f41 := X4.frozen 1
        have f42 := X4.frozen 2
        have s40 := X4.cell 0
        have s41 := X4.cell 1
        have s42 := X4.cell 2
        have c90 := X9.cell 0
        have c91 := X9.cell 1
        simp only [List.getElem?_toArray, List.getElem?_cons_zero, List.getElem?_cons_succ] at s40 s41 s42 c90 c91
        go_wp2
        have Y4 := ((X4.set 0 (.int .i8 nx)).set 1 (.int .i8 ny)).set 2 (.int .i64 (z : Int))
        have q40 := Y4.cell 0
        have q41 := Y4.cell 1
        have q42 := Y4.cell 2
        simp at q40 q41 q42
        exact bodyPost_ret (v := .tuple #[.agg #[.int .i8 nx, .int .i8 ny, .int .i64 (z : Int)], .bool true]) (by simp [results, Tryd.results66, go_sem, q40, q41, q42]) rfl ⟨((B.setCell (p := ⟨w.heap.size + 1, 0, none⟩) (by simp) (.int .i8 nx)).setCell (p := ⟨w.heap.size + 1, 1, none⟩) (by simp) (.int .i8 ny)).setCell (p := ⟨w.heap.size + 1, 2, none⟩) (by simp) (.int .i64 (z : Int)), 2, HFK.out, .inl ⟨by omega, by rw [← HZ.out, ← HXY.out.1, ← HXY.out.2]⟩⟩
    · have HFK := Lib.hid (fk_of (G := G) (x := x) (y := y) (h := h) (Nat.le_refl 3) HNO.out (fun hh => absurd hh (by omega)))
      have f40 := X4.frozen 0
      have f41 := X4.frozen 1
      have f42 := X4.frozen 2
      have s40 := X4.cell 0
      have s41 := X4.cell 1
      have s42 := X4.cell 2
      simp only [List.getElem?_toArray, List.getElem?_cons_zero, List.getElem?_cons_succ] at s40 s41 s42
      go_wp2
      have Y4 := ((X4.set 0 (.int .i8 0)).set 1 (.int .i8 0)).set 2 (.int .i64 0)
      have q40 := Y4.cell 0
      have q41 := Y4.cell 1
      have q42 := Y4.cell 2
      simp at q40 q41 q42
      exact bodyPost_ret (v := .tuple #[.agg #[.int .i8 0, .int .i8 0, .int .i64 0], .bool false]) (by simp [results, Tryd.results66, go_sem, q40, q41, q42]) rfl ⟨((B.setCell (p := ⟨w.heap.size + 1, 0, none⟩) (by simp) (.int .i8 0)).setCell (p := ⟨w.heap.size + 1, 1, none⟩) (by simp) (.int .i8 0)).setCell (p := ⟨w.heap.size + 1, 2, none⟩) (by simp) (.int .i64 0), 3, HFK.out, .inr ⟨rfl, rfl⟩⟩
end Go.Proofs.YtmkcdelfgaogaaaDoor

namespace Go.Proofs.YtmkcdelfgaogaaaDoor
open Go Go.ChangeShapes Go.WideShapes Go.ChangeAt Go.RowKit
set_option linter.unusedVariables false
set_option linter.unusedSimpArgs false
set_option maxRecDepth 100000
set_option maxHeartbeats 4000000

theorem indexP_any (A : Option Addr) (n cap : Nat) (px py : Nat → Int) (x y : Int) (w : World) (hn : n ≤ 10000000) (hcap : n ≤ cap) (hP : RdP w A n px py) :
    Calls Tryd.prog 89 #[.slice A n cap, .agg #[.int .i8 x, .int .i8 y]] w fun e w' => Below w.heap.size w w' ∧ ∃ z : Int, e = .returned (.int .i64 z) ∧ ((HasPt n px py x y ∧ 0 ≤ z) ∨ (¬ HasPt n px py x y ∧ z = -1)) := by
  have X3 := C2.new w x y 35
  have B := al (Below.refl w.heap.size w) (.cells #[.int .i8 x, .int .i8 y] 35)
  obtain ⟨W0, hW0⟩ : ∃ W0 : World, W0 = w.alloc (.cells #[.int .i8 x, .int .i8 y] 35) := ⟨_, rfl⟩
  rw [← hW0] at X3 B
  go_enter Tryd.func89, Tryd.ntmps89
  go_wp2_with fail
  rw [← hW0]
  clear hW0
  go_loopw [5, 8] (fun t5 t8 wr => ∃ i : Nat, i ≤ n ∧ t8 = .int .i64 (i : Int) ∧ Below w.heap.size w wr ∧ C2 wr w.heap.size x y ∧ (∀ j, j < i → ¬ (px j = x ∧ py j = y))) (fun t5 t8 wr => n - (intOf t8).toNat)
  case atStart => exact ⟨0, by omega, by simp, B, X3, fun j hj => by omega⟩
  case round =>
    clear B X3
    obtain ⟨i, hi, rfl, B, X3, hall⟩ := hrel
    obtain ⟨wo, rfl⟩ : ∃ wo : World, wo = wr := ⟨_, rfl⟩
    have HA := Lib.hid hall
    clear hall
    by_cases hlt : i < n
    · have hli : (i : Int) < (n : Int) := by omega
      have hcap' : (i : Int) < (cap : Int) := by omega
      obtain ⟨b', off, rfl, hbl, hcell⟩ := hP.below B (by omega)
      obtain ⟨cx, cy⟩ := hcell i hlt
      obtain ⟨l3, p3, q3⟩ := id X3
      obtain ⟨a, ha⟩ : ∃ a, px i = a := ⟨_, rfl⟩
      obtain ⟨b, hb⟩ : ∃ b, py i = b := ⟨_, rfl⟩
      rw [ha] at cx
      rw [hb] at cy
      by_cases he : a = x ∧ b = y
      · have HE := Lib.hid he
        have d1 : (x == a) = true := by simpa using he.1.symm
        have d2 : (y == b) = true := by simpa using he.2.symm
        have HAB := Lib.hid (And.intro ha hb)
        clear ha hb he hcell
        go_wp2_with fail
        go_quiet (fail)
        go_wp2
        go_ret
        exact ⟨below_drewN' B _, _, rfl, .inl ⟨⟨i, hlt, HAB.out.1.trans HE.out.1, HAB.out.2.trans HE.out.2⟩, by omega⟩⟩
      · have hcase : (a = x ∧ b ≠ y) ∨ a ≠ x := by
          by_cases h : a = x
          · exact .inl ⟨h, fun h2 => he ⟨h, h2⟩⟩
          · exact .inr h
        have HE := Lib.hid he
        have HAB := Lib.hid (And.intro ha hb)
        clear ha hb he hcell
        have fin : ∀ j, j < i + 1 → ¬ (px j = x ∧ py j = y) := fun j hj => by
          by_cases e : j = i
          · subst e
            rw [HAB.out.1, HAB.out.2]
            exact HE.out
          · exact HA.out j (by omega)
        have FIN := Lib.hid fin
        clear fin
        rcases hcase with ⟨h1, h2⟩ | h1
        · have d1 : (x == a) = true := by simpa using h1.symm
          have d2 : (y == b) = false := by simpa using fun h => h2 h.symm
          clear h1 h2
          go_wp2_with fail
          go_quiet (fail)
          go_wp2
          exact ⟨⟨i + 1, by omega, by first | go_num | simp, below_drewN' B _, X3, FIN.out⟩, by simp [intOf]; omega⟩
        · have d1 : (x == a) = false := by simpa using fun h => h1 h.symm
          clear h1
          go_wp2_with fail
          go_quiet (fail)
          go_wp2
          exact ⟨⟨i + 1, by omega, by first | go_num | simp, below_drewN' B _, X3, FIN.out⟩, by simp [intOf]; omega⟩
    · obtain rfl : i = n := by omega
      have HNO := Lib.hid (show ¬ HasPt i px py x y from fun ⟨j, hj, h⟩ => HA.out j hj h)
      go_wp2
      go_ret
      exact ⟨B, _, rfl, .inr ⟨HNO.out, rfl⟩⟩
theorem containsP_any (A : Option Addr) (n cap : Nat) (px py : Nat → Int) (x y : Int) (r : Bool) (w : World) (hn : n ≤ 10000000) (hcap : n ≤ cap) (hP : RdP w A n px py) (hr : r = true ↔ HasPt n px py x y) :
    Calls Tryd.prog 67 #[.slice A n cap, .agg #[.int .i8 x, .int .i8 y]] w (SjPost r w) := by
  have X3 := C2.new w x y 35
  have B := al (Below.refl w.heap.size w) (.cells #[.int .i8 x, .int .i8 y] 35)
  obtain ⟨W0, hW0⟩ : ∃ W0 : World, W0 = w.alloc (.cells #[.int .i8 x, .int .i8 y] 35) := ⟨_, rfl⟩
  rw [← hW0] at X3 B
  have HH := Lib.hid (indexP_any A n cap px py x y W0 hn hcap (hP.below B))
  go_enter Tryd.func67, Tryd.ntmps67
  go_wp2_with fail
  rw [← hW0]
  clear hW0
  refine HH.out.mono ?_
  rintro e w1 ⟨hb, z, rfl, ⟨h1, hz⟩ | ⟨h1, rfl⟩⟩
  · obtain rfl : r = true := hr.2 h1
    have d1 : decide (0 ≤ z) = true := by simpa using hz
    replace B := nxt B hb
    clear hb h1 hr
    go_wp2
    go_ret
    exact ⟨by first | rfl | (show Ending.returned (Value.bool (decide (0 ≤ z))) = _; rw [d1]), B⟩
  · obtain rfl : r = false := by
      cases r; rfl
      exact absurd (hr.1 rfl) h1
    replace B := nxt B hb
    clear hb h1 hr
    go_wp2
    go_ret
    exact ⟨rfl, B⟩

theorem growI_any (m : Nat) (L : List En) (x0 y0 : Int) (h0 years : Nat) (G : Nat → Int) (w : World) (hx0 : 0 ≤ x0 ∧ x0 ≤ 12) (hy0 : 0 ≤ y0 ∧ y0 ≤ 12) (hh0 : h0 < 4) (hyr : years ≤ 60) (hM : EMap w m L) (hL : ∀ ax ay bx by_, hasK L (edE ax ay bx by_) = betw G ax ay bx by_) :
    Calls Tryd.prog 50 #[.map (some m), .agg #[.int .i8 x0, .int .i8 y0, .int .i64 (h0 : Int)], .int .i64 (years : Int)] w (GrPost G x0 y0 h0 years w) := by
  obtain ⟨i0, hi, hz0, hz1, hz2⟩ := info_parts infoCell
  have X4 := (Bx.new w #[.int .i8 x0, .int .i8 y0, .int .i64 (h0 : Int)] 92).alloc (.cells #[.int .i8 x0, .int .i8 y0] 35)
  have B := al (al (Below.refl w.heap.size w) (.cells #[.int .i8 x0, .int .i8 y0, .int .i64 (h0 : Int)] 92)) (.cells #[.int .i8 x0, .int .i8 y0] 35)
  have O : OwnP ((w.alloc (.cells #[.int .i8 x0, .int .i8 y0, .int .i64 (h0 : Int)] 92)).alloc (.cells #[.int .i8 x0, .int .i8 y0] 35)) (w.heap.size + 1) (.slice (some ⟨w.heap.size + 1, 0, none⟩) 1 1) 1 (appP (fun _ => 0) 0 x0 y0) := by
    have e : rowV (appP (fun _ => 0) 0 x0 y0) 1 = [.int .i8 x0, .int .i8 y0] := rfl
    unfold OwnP
    rw [e]
    refine ⟨rfl, .inr ⟨w.heap.size + 1, 1, #[.int .i8 x0, .int .i8 y0], rfl, Nat.le_refl _, ?_, Nat.le_refl _, by unfold maxLen; omega, rfl, rfl⟩⟩
    have := heap_alloc_new (w.alloc (.cells #[.int .i8 x0, .int .i8 y0, .int .i64 (h0 : Int)] 92)) (.cells #[.int .i8 x0, .int .i8 y0] 35)
    rwa [World.size_alloc] at this
  obtain ⟨W0, hW0⟩ : ∃ W0 : World, W0 = (w.alloc (.cells #[.int .i8 x0, .int .i8 y0, .int .i64 (h0 : Int)] 92)).alloc (.cells #[.int .i8 x0, .int .i8 y0] 35) := ⟨_, rfl⟩
  rw [← hW0] at X4 B O
  have HIN := Lib.hid (fun k => gst_in (G := G) hx0 hy0 hh0 k)
  have HL := Lib.hid hL
  clear hx0 hy0 hL
  go_enter Tryd.func50, Tryd.ntmps50
  go_wp2_with fail
  rw [← hW0]
  clear hW0
  go_loopw [7, 8, 9, 14] (fun t7 t8 t9 t14 wr => ∃ (n : Nat), n ≤ years ∧ t14 = .int .i64 (n : Int) ∧ (gst G x0 y0 h0 n).stop = false ∧ Below w.heap.size w wr ∧ Bx wr w.heap.size #[.int .i8 (gst G x0 y0 h0 n).x, .int .i8 (gst G x0 y0 h0 n).y, .int .i64 ((gst G x0 y0 h0 n).h : Int)] 92 ∧ OwnP wr (w.heap.size + 1) t7 (gst G x0 y0 h0 n).n (gst G x0 y0 h0 n).c) (fun t7 t8 t9 t14 wr => years - (intOf t14).toNat)
  case atStart => exact ⟨0, by omega, by simp, rfl, B, X4, O⟩
  case round =>
    clear B X4 O
    obtain ⟨n, hn, rfl, hst, B, X4, O⟩ := hrel
    obtain ⟨v0, rfl⟩ : ∃ v0 : Value, v0 = u7 := ⟨_, rfl⟩
    obtain ⟨wo, rfl⟩ : ∃ wo : World, wo = wr := ⟨_, rfl⟩
    obtain ⟨⟨hx1, hx2⟩, ⟨hy1, hy2⟩, hh, hns⟩ := HIN.out n
    have HST := Lib.hid hst
    clear hst
    obtain ⟨s, hs⟩ : ∃ s, s = gst G x0 y0 h0 n := ⟨_, rfl⟩
    rw [← hs] at hx1 hx2 hy1 hy2 hh hns X4 O HST
    have HS := Lib.hid hs
    clear hs
    by_cases hlt : n < years
    · have hli : (n : Int) < (years : Int) := by omega
      have p4 := X4.cell 0
      have q4 := X4.cell 1
      have r4 := X4.cell 2
      simp only [List.getElem?_toArray, List.getElem?_cons_zero, List.getElem?_cons_succ] at p4 q4 r4
      have HNX := Lib.hid (next_any m L G s.x s.y s.h wo ⟨hx1, hx2⟩ ⟨hy1, hy2⟩ hh (hM.below B hM.lt) HL.out)
      go_wp2_with fail
      refine HNX.out.mono ?_
      rintro e w1 ⟨hb, k, hk, ⟨hk3, rfl⟩ | ⟨rfl, rfl⟩⟩
      · have hway : wayJ G s.x s.y (trn s.h k) = true := by rw [← hk]; exact fk_way (by rw [hk]; omega)
        have hin := step_in (G := G) (trn_lt (k := k) hh) ⟨hx1, hx2⟩ ⟨hy1, hy2⟩ hway
        clear hway
        have hz4 : trn s.h k < 4 := trn_lt hh
        obtain ⟨z, hz⟩ : ∃ z, z = trn s.h k := ⟨_, rfl⟩
        rw [← hz] at hin hz4 ⊢
        obtain ⟨nx, hnx⟩ : ∃ nx, nx = stepX s.x z := ⟨_, rfl⟩
        obtain ⟨ny, hny⟩ : ∃ ny, ny = stepY s.y z := ⟨_, rfl⟩
        rw [← hnx, ← hny] at hin ⊢
        have HXY := Lib.hid (And.intro hnx hny)
        have HZ := Lib.hid hz
        have HK := Lib.hid hk
        have hkn : k ≠ 3 := by omega
        replace X4 := (X4.below hb).alloc (.cells #[.int .i8 nx, .int .i8 ny, .int .i64 (z : Int)] 92)
        replace O := World.ownsRow.alloc (O.below hb) (.cells #[.int .i8 nx, .int .i8 ny, .int .i64 (z : Int)] 92)
        replace B := al (nxt B hb) (.cells #[.int .i8 nx, .int .i8 ny, .int .i64 (z : Int)] 92)
        have X8 := Bx.new w1 #[.int .i8 nx, .int .i8 ny, .int .i64 (z : Int)] 92
        have O' : OwnP (w1.alloc (.cells #[.int .i8 nx, .int .i8 ny, .int .i64 (z : Int)] 92)) (w.heap.size + 1) v0 s.n s.c := O
        clear O hb p4 q4 r4 hnx hny hz hk HNX
        obtain ⟨W5, hW5⟩ : ∃ W5 : World, W5 = w1.alloc (.cells #[.int .i8 nx, .int .i8 ny, .int .i64 (z : Int)] 92) := ⟨_, rfl⟩
        rw [← hW5] at X4 O' B X8
        obtain ⟨A, cap, rfl, hcap⟩ := O'.shape
        obtain ⟨r2, er2⟩ := dec_exB (HasPt s.n (PX s.c) (PY s.c) nx ny)
        have HH := Lib.hid (containsP_any A s.n cap (PX s.c) (PY s.c) nx ny r2 W5 (by omega) hcap O'.rdP er2)
        have ER2 := Lib.hid er2
        clear er2
        go_wp2_with fail
        rw [← hW5]
        clear hW5
        refine HH.out.mono ?_
        rintro e w6 ⟨rfl, hb⟩
        replace X4 := X4.below hb
        replace X8 := X8.below hb
        replace O' := O'.below hb
        replace B := nxt B hb
        clear hb HH
        cases r2 with
        | true =>
          have hstep : gst G x0 y0 h0 (n + 1) = { gst G x0 y0 h0 n with stop := true } := by
            show gstep G (gst G x0 y0 h0 n) = _
            rw [← HS.out]
            exact gstep_has HST.out HK.out hkn (by rw [← HZ.out, ← HXY.out.1, ← HXY.out.2]; exact ER2.out.1 (by trivial))
          have hend := gst_ends hstep hlt
          rw [← HS.out] at hend
          have HEND := Lib.hid hend
          have hO := Lib.hid (World.ownsRow.mono O' (show w.heap.size ≤ w.heap.size + 1 by omega))
          clear hstep hend
          go_wp2
          go_ret
          refine ⟨B, _, rfl, ?_⟩
          rw [HEND.out.1, HEND.out.2]
          exact hO.out
        | false =>
          have hstep : gst G x0 y0 h0 (n + 1) = ⟨nx, ny, z, s.n + 1, appP s.c s.n nx ny, false⟩ := by
            show gstep G (gst G x0 y0 h0 n) = _
            rw [← HS.out, gstep_go HST.out HK.out hkn (by rw [← HZ.out, ← HXY.out.1, ← HXY.out.2]; exact fun h => absurd (ER2.out.2 h) (by decide)), ← HZ.out, ← HXY.out.1, ← HXY.out.2]
          have HSTEP := Lib.hid hstep
          clear hstep
          have f40 := X4.frozen 0
          have f41 := X4.frozen 1
          have f42 := X4.frozen 2
          have s40 := X4.cell 0
          have s41 := X4.cell 1
          have s42 := X4.cell 2
          have c80 := X8.cell 0
          have c81 := X8.cell 1
          have c82 := X8.cell 2
          simp only [List.getElem?_toArray, List.getElem?_cons_zero, List.getElem?_cons_succ] at s40 s41 s42 c80 c81 c82
          have Y4 := ((X4.set 0 (.int .i8 nx)).set 1 (.int .i8 ny)).set 2 (.int .i64 (z : Int))
          have B7 := ((B.setCell (p := ⟨w.heap.size, 0, none⟩) (by simp) (.int .i8 nx)).setCell (p := ⟨w.heap.size, 1, none⟩) (by simp) (.int .i8 ny)).setCell (p := ⟨w.heap.size, 2, none⟩) (by simp) (.int .i64 (z : Int))
          have O7 : OwnP (((w6.setCell ⟨w.heap.size, 0, none⟩ (.int .i8 nx)).setCell ⟨w.heap.size, 1, none⟩ (.int .i8 ny)).setCell ⟨w.heap.size, 2, none⟩ (.int .i64 (z : Int))) (w.heap.size + 1) (.slice A s.n cap) s.n s.c := by
            refine ⟨O'.1, O'.2.imp id ?_⟩
            rintro ⟨g, cap', cur, h1, h2, h3, h4⟩
            refine ⟨g, cap', cur, h1, h2, ?_, h4⟩
            rw [Below.heap_setCell _ _ _ g (by simp; omega), Below.heap_setCell _ _ _ g (by simp; omega), Below.heap_setCell _ _ _ g (by simp; omega)]
            exact h3
          obtain ⟨W7, hW7⟩ : ∃ W7 : World, W7 = ((w6.setCell ⟨w.heap.size, 0, none⟩ (.int .i8 nx)).setCell ⟨w.heap.size, 1, none⟩ (.int .i8 ny)).setCell ⟨w.heap.size, 2, none⟩ (.int .i64 (z : Int)) := ⟨_, rfl⟩
          rw [← hW7] at Y4 B7 O7
          have hO7 := Lib.hid O7
          have hl7 : w.heap.size + 1 ≤ W7.heap.size := Y4.lt
          have hns2 : s.n ≤ 61 := by omega
          have hsz7 : W7.heap.size = w6.heap.size := by rw [hW7]; simp [World.setCell]
          have HNC := Lib.hid (new_cells W7 #[.int .i8 nx, .int .i8 ny] 35)
          rw [hsz7] at HNC
          clear O' B O7 X4 X8
          go_wp2_with (at_builtin; rw [← hW7]; refine wpList_append_own _ rfl _ _ 53 rfl (w.heap.size + 1) 35 i0 (.agg #[.int .i8 0, .int .i8 0]) 2 2 Tryd.underlying53 hi hz0 hz1 hz2 rfl (by decide) _ _ _ rfl (World.ownsRow.alloc hO7.out _) ⟨w6.heap.size, 0, none⟩ 1 1 [.int .i8 nx, .int .i8 ny] rfl rfl HNC.out one_ints (by unfold maxLen; omega) (by omega) (by simp; omega) ?_; intro v' w1' own' hgr _; clear hW7)
          have B1 : Below w.heap.size w w1' := (al B7 _).grown hgr (al B7 _).size (fun k e => by have := (World.ownsRow.lt hO7.out k e).1; omega)
          have X41 : Bx w1' w.heap.size #[.int .i8 nx, .int .i8 ny, .int .i64 (z : Int)] 92 := (Bx.alloc (show Bx W7 w.heap.size #[.int .i8 nx, .int .i8 ny, .int .i64 (z : Int)] 92 from Y4) _).of_block (hgr.block _ (by simp; omega) (fun e => by have := (World.ownsRow.lt hO7.out _ e.symm).1; omega))
          have O1 : OwnP w1' (w.heap.size + 1) v' (s.n + 1) (appP s.c s.n nx ny) := by
            rw [rowV_snoc] at own'
            exact own'
          clear own' hgr Y4 B7 hO7
          go_wp2
          refine ⟨⟨n + 1, by omega, by first | go_num | simp, by rw [HSTEP.out], B1, by rw [HSTEP.out]; exact X41, by rw [HSTEP.out]; exact O1⟩, by simp [intOf]; omega⟩
      · have hstep : gst G x0 y0 h0 (n + 1) = { gst G x0 y0 h0 n with stop := true } := by
          show gstep G (gst G x0 y0 h0 n) = _
          rw [← HS.out]
          exact gstep_none HST.out hk
        have hend := gst_ends hstep hlt
        rw [← HS.out] at hend
        have HEND := Lib.hid hend
        have hO := Lib.hid (World.ownsRow.mono (World.ownsRow.alloc (O.below hb) (.cells #[.int .i8 0, .int .i8 0, .int .i64 0] 92)) (show w.heap.size ≤ w.heap.size + 1 by omega))
        replace B := al (nxt B hb) (.cells #[.int .i8 0, .int .i8 0, .int .i64 0] 92)
        clear hstep hend hb hk p4 q4 r4 HNX O X4
        go_wp2
        go_ret
        refine ⟨B, _, rfl, ?_⟩
        rw [HEND.out.1, HEND.out.2]
        exact hO.out
    · obtain rfl : n = years := by omega
      have hO := Lib.hid (World.ownsRow.mono O (show w.heap.size ≤ w.heap.size + 1 by omega))
      go_wp2
      go_ret
      refine ⟨B, _, rfl, ?_⟩
      rw [← HS.out]
      exact hO.out
end Go.Proofs.YtmkcdelfgaogaaaDoor

namespace Go.Proofs.YtmkcdelfgaogaaaDoor
open Go Go.ChangeShapes Go.WideShapes Go.ChangeAt Go.RowKit
set_option linter.unusedVariables false
set_option linter.unusedSimpArgs false
set_option maxRecDepth 100000

/-- a point, a way, a length. -/
structure Lst where
  x : Int
  y : Int
  h : Nat
  n : Nat
/-- one more crack. -/
noncomputable def lstep (G : Nat → Int) (years : Nat) (x y h : Nat) (s : Lst) : Lst :=
  if s.n < (gst G x y h years).n then ⟨x, y, h, (gst G x y h years).n⟩ else s
/-- the first k ways of a point. -/
noncomputable def lways (G : Nat → Int) (years x y : Nat) (s : Lst) : Nat → Lst
  | 0 => s
  | k + 1 => lstep G years x y k (lways G years x y s k)
/-- the first i points. -/
noncomputable def lpts (G : Nat → Int) (years Wp : Nat) : Nat → Lst
  | 0 => ⟨0, 0, 0, 0⟩
  | i + 1 => lways G years (i % Wp) (i / Wp) (lpts G years Wp i) 4
theorem lstep_yes {G : Nat → Int} {years x y h : Nat} {s : Lst} (e : s.n < (gst G x y h years).n) : lstep G years x y h s = ⟨x, y, h, (gst G x y h years).n⟩ := if_pos e
theorem lstep_no {G : Nat → Int} {years x y h : Nat} {s : Lst} (e : ¬ s.n < (gst G x y h years).n) : lstep G years x y h s = s := if_neg e
def LOk (s : Lst) : Prop := (0 ≤ s.x ∧ s.x ≤ 12) ∧ (0 ≤ s.y ∧ s.y ≤ 12) ∧ s.h < 4 ∧ s.n ≤ 61
theorem lstep_ok {G : Nat → Int} {years x y h : Nat} {s : Lst} (hs : LOk s) (hx : x ≤ 12) (hy : y ≤ 12) (hh : h < 4) (hyr : years ≤ 60) : LOk (lstep G years x y h s) := by
  by_cases e : s.n < (gst G x y h years).n
  · rw [lstep_yes e]
    have := gst_in (G := G) (x := (x : Int)) (y := (y : Int)) (h := h) (by omega) (by omega) hh years
    refine ⟨?_, ?_, hh, ?_⟩
    · show 0 ≤ (x : Int) ∧ (x : Int) ≤ 12; omega
    · show 0 ≤ (y : Int) ∧ (y : Int) ≤ 12; omega
    · show (gst G x y h years).n ≤ 61; omega
  · rw [lstep_no e]; exact hs
theorem lways_ok {G : Nat → Int} {years x y : Nat} {s : Lst} (hs : LOk s) (hx : x ≤ 12) (hy : y ≤ 12) (hyr : years ≤ 60) : ∀ k, k ≤ 4 → LOk (lways G years x y s k)
  | 0, _ => hs
  | k + 1, hk => lstep_ok (lways_ok hs hx hy hyr k (by omega)) hx hy (by omega) hyr
theorem lpts_ok {G : Nat → Int} {years Wp Hp : Nat} (hW : Wp ≤ 13) (hH : Hp ≤ 13) (hyr : years ≤ 60) : ∀ i, i ≤ Wp * Hp → LOk (lpts G years Wp i)
  | 0, _ => ⟨by show 0 ≤ (0 : Int) ∧ (0 : Int) ≤ 12; omega, by show 0 ≤ (0 : Int) ∧ (0 : Int) ≤ 12; omega, by show 0 < 4; omega, by show 0 ≤ 61; omega⟩
  | i + 1, hi => by
    have h0 : 0 < Wp := by
      rcases Nat.eq_zero_or_pos Wp with e | e
      · subst e; simp at hi
      · exact e
    have h1 : i % Wp < Wp := Nat.mod_lt _ h0
    have h2 : i / Wp < Hp := Nat.div_lt_of_lt_mul (by omega)
    exact lways_ok (lpts_ok hW hH hyr i (by omega)) (by omega) (by omega) hyr 4 (by omega)
/-- what LongestCrack answers. -/
def LcPost (X Y : Int) (n : Nat) (c : Nat → Int) (yr : Int) (w : World) (e : Ending) (w' : World) : Prop :=
  Below w.heap.size w w' ∧ ((¬ Valid X Y n c ∧ e = .returned (.tuple #[.agg #[.int .i8 0, .int .i8 0], .int .i64 0, .int .i64 0, .int .i64 1])) ∨
    (Valid X Y n c ∧ ¬ (0 ≤ yr ∧ yr ≤ 60) ∧ e = .returned (.tuple #[.agg #[.int .i8 0, .int .i8 0], .int .i64 0, .int .i64 0, .int .i64 2])) ∨
    (Valid X Y n c ∧ (0 ≤ yr ∧ yr ≤ 60) ∧ ∃ s, s = lpts (gridN c n) yr.toNat (X.toNat + 1) ((X.toNat + 1) * (Y.toNat + 1)) ∧ e = .returned (.tuple #[.agg #[.int .i8 s.x, .int .i8 s.y], .int .i64 (s.h : Int), .int .i64 (s.n : Int), .int .i64 0])))
end Go.Proofs.YtmkcdelfgaogaaaDoor

namespace Go.Proofs.YtmkcdelfgaogaaaDoor
open Go Go.ChangeShapes Go.WideShapes Go.ChangeAt Go.RowKit
set_option linter.unusedVariables false
set_option linter.unusedSimpArgs false
set_option maxRecDepth 100000
set_option maxHeartbeats 4000000

theorem yearsS_any (yr : Int) (r : Bool) (w : World) (hr : r = true ↔ 0 ≤ yr ∧ yr ≤ 60) : Calls Tryd.prog 45 #[.int .i64 yr] w fun e w' => e = .returned (.bool r) ∧ w' = w := by
  by_cases h : 0 ≤ yr ∧ yr ≤ 60
  · obtain rfl : r = true := hr.2 h
    have HH := Lib.hid (in_yes yr 0 60 w h.1 h.2)
    clear hr h
    go_enter Tryd.func45, Tryd.ntmps45
    go_wp2_with fail
    refine HH.out.mono ?_
    rintro e w1 ⟨rfl, rfl⟩
    go_wp2
    go_ret
    exact ⟨rfl, rfl⟩
  · obtain rfl : r = false := by cases r; rfl; exact absurd (hr.1 rfl) h
    have HH := Lib.hid (in_no yr 0 60 w h)
    clear hr h
    go_enter Tryd.func45, Tryd.ntmps45
    go_wp2_with fail
    refine HH.out.mono ?_
    rintro e w1 ⟨rfl, rfl⟩
    go_wp2
    go_ret
    exact ⟨rfl, rfl⟩

theorem specLc_any (X Y : Int) (g n : Nat) (c : Nat → Int) (yr : Int) (w : World) (hX : -128 ≤ X ∧ X ≤ 127) (hY : -128 ≤ Y ∧ Y ≤ 127) (hc : ∀ j, -128 ≤ c j ∧ c j ≤ 127) (hm : n ≤ 1048576)
    (hrow : w.rowIs g 105 (4 * n) (fun j => .int .i8 (c j))) :
    Calls Tryd.prog 28 #[.agg #[.int .i8 X, .int .i8 Y, .slice (some ⟨g, 0, none⟩) n n], .int .i64 yr] w (LcPost X Y n c yr w) := by
  have HC := Lib.hid hc
  clear hc
  obtain ⟨ry, ery⟩ := dec_exB (0 ≤ yr ∧ yr ≤ 60)
  have HY := Lib.hid (fun W => yearsS_any yr ry W ery)
  have ERY := Lib.hid ery
  have X2 := ((Sq.new w X Y (.slice (some ⟨g, 0, none⟩) n n) 33).alloc (.cells #[.int .i8 0, .int .i8 0] 35)).alloc (.cells #[] 35)
  have X4 := (Bx.new (w.alloc (.cells #[.int .i8 X, .int .i8 Y, .slice (some ⟨g, 0, none⟩) n n] 33)) #[.int .i8 0, .int .i8 0] 35).alloc (.cells #[] 35)
  have B := al (al (al (Below.refl w.heap.size w) (.cells #[.int .i8 X, .int .i8 Y, .slice (some ⟨g, 0, none⟩) n n] 33)) (.cells #[.int .i8 0, .int .i8 0] 35)) (.cells #[] 35)
  have e1 : (w.alloc (.cells #[.int .i8 X, .int .i8 Y, .slice (some ⟨g, 0, none⟩) n n] 33)).heap.size = w.heap.size + 1 := by simp
  rw [e1] at X4
  obtain ⟨W1, hW1⟩ : ∃ W1 : World, W1 = ((w.alloc (.cells #[.int .i8 X, .int .i8 Y, .slice (some ⟨g, 0, none⟩) n n] 33)).alloc (.cells #[.int .i8 0, .int .i8 0] 35)).alloc (.cells #[] 35) := ⟨_, rfl⟩
  rw [← hW1] at X2 X4 B
  clear e1 ery
  go_enter Tryd.func28, Tryd.ntmps28
  go_wp2_with fail
  rw [← hW1]
  clear hW1
  refine (HY.out _).mono ?_
  rintro e w1 ⟨rfl, hw1⟩
  replace hw1 := hw1.symm
  subst hw1
  go_wp2_with fail
  refine (told_any X Y _ g n c _ 0 0 (fun _ => 0) (fun _ => 0) ry W1 hX hY HC.out hm X2 (hrow.of_block (B.block _ hrow.lt)) (by omega) (by omega) (fun h => absurd h (by omega)) (fun _ => by omega) (fun _ => by omega)).mono ?_
  rintro e w2 ⟨hb, cs, hsz, hone, hcase⟩
  replace X4 := X4.below hb
  have hl4 := X4.lt
  have hl2 := (X2.below hb).1
  replace X2 := (X2.below hb).alloc (.cells Tryd.zeroCells64 64)
  replace B := nxt B hb
  have hsz1 := B.size
  replace B := al B (.cells Tryd.zeroCells64 64)
  have h8 := heap_alloc_new w2 (.cells Tryd.zeroCells64 64)
  have H8 := Lib.hid h8
  replace B := below_setRow B hsz1 cs
  replace X4 : Bx ((w2.alloc (.cells Tryd.zeroCells64 64)).setRow w2.heap.size cs) (w.heap.size + 1) #[.int .i8 0, .int .i8 0] 35 := (X4.alloc _).of_block (setRow_other _ w2.heap.size _ cs (by omega))
  replace X2 : Sq ((w2.alloc (.cells Tryd.zeroCells64 64)).setRow w2.heap.size cs) _ _ _ _ := X2.of_block (by rw [setRow_size]; exact Nat.le_refl _) (setRow_other _ w2.heap.size _ cs (by omega))
  clear hb
  rcases hcase with ⟨hv, rfl⟩ | ⟨hv, hn, rfl⟩ | ⟨hv, hy, hcell, rfl⟩
  · have HV := Lib.hid hv
    clear hv h8
    have f40 := X4.frozen 0
    have f41 := X4.frozen 1
    have s40 := X4.cell 0
    have s41 := X4.cell 1
    simp only [List.getElem?_toArray, List.getElem?_cons_zero, List.getElem?_cons_succ] at s40 s41
    go_wp2_with (first
      | (refine wpList_store_row rfl 64 (.tmp 8) (.tmp 22) rfl w2.heap.size cs rfl rfl 64 Tryd.zeroCells64 H8.out (by rw [info93, hsz]) (by rw [zc_size, hsz]) hone ?_))
    have Y4 := (X4.set 0 (.int .i8 0)).set 1 (.int .i8 0)
    have q40 := Y4.cell 0
    have q41 := Y4.cell 1
    simp at q40 q41
    exact bodyPost_ret (v := .tuple #[.agg #[.int .i8 0, .int .i8 0], .int .i64 0, .int .i64 0, .int .i64 1]) (by simp [results, Tryd.results28, go_sem, q40, q41]) rfl ⟨((B.setCell (p := ⟨w.heap.size + 1, 0, none⟩) (by simp) (.int .i8 0)).setCell (p := ⟨w.heap.size + 1, 1, none⟩) (by simp) (.int .i8 0)), .inl ⟨HV.out, rfl⟩⟩
  · have HV := Lib.hid hv
    have HN := Lib.hid hn
    clear hv hn h8
    have f40 := X4.frozen 0
    have f41 := X4.frozen 1
    have s40 := X4.cell 0
    have s41 := X4.cell 1
    simp only [List.getElem?_toArray, List.getElem?_cons_zero, List.getElem?_cons_succ] at s40 s41
    go_wp2_with (first
      | (refine wpList_store_row rfl 64 (.tmp 8) (.tmp 22) rfl w2.heap.size cs rfl rfl 64 Tryd.zeroCells64 H8.out (by rw [info93, hsz]) (by rw [zc_size, hsz]) hone ?_))
    have Y4 := (X4.set 0 (.int .i8 0)).set 1 (.int .i8 0)
    have q40 := Y4.cell 0
    have q41 := Y4.cell 1
    simp at q40 q41
    exact bodyPost_ret (v := .tuple #[.agg #[.int .i8 0, .int .i8 0], .int .i64 0, .int .i64 0, .int .i64 2]) (by simp [results, Tryd.results28, go_sem, q40, q41]) rfl ⟨((B.setCell (p := ⟨w.heap.size + 1, 0, none⟩) (by simp) (.int .i8 0)).setCell (p := ⟨w.heap.size + 1, 1, none⟩) (by simp) (.int .i8 0)), .inr (.inl ⟨HV.out, fun h => HN.out ⟨ERY.out.2 h, fun j hj => absurd hj (by omega)⟩, rfl⟩)⟩
  have HYR := Lib.hid (ERY.out.1 hy.1)
  obtain ⟨years, rfl⟩ : ∃ years : Nat, yr = years := Int.eq_ofNat_of_zero_le HYR.out.1
  have hyr : years ≤ 60 := by have := HYR.out.2; omega
  obtain ⟨W, rfl⟩ : ∃ W : Nat, X = W := Int.eq_ofNat_of_zero_le (by have := hv.1; omega)
  obtain ⟨H, rfl⟩ : ∃ H : Nat, Y = H := Int.eq_ofNat_of_zero_le (by have := hv.2.2.1; omega)
  have hW0 : 1 ≤ W := by have := hv.1; omega
  have hW : W ≤ 12 := by have := hv.2.1; omega
  have hH : H ≤ 12 := by have := hv.2.2.2.1; omega
  have h8' := setRow_heap _ w2.heap.size _ cs _ _ h8
  have R := (show ((w2.alloc (.cells Tryd.zeroCells64 64)).setRow w2.heap.size cs).rowIs w2.heap.size 64 144 (fun p => .int .i64 (gridN c n p)) from ⟨cs, h8', hsz, hcell⟩)
  obtain ⟨W3, hW3⟩ : ∃ W3 : World, W3 = (w2.alloc (.cells Tryd.zeroCells64 64)).setRow w2.heap.size cs := ⟨_, rfl⟩
  have HV := Lib.hid hv
  rw [← hW3] at R X2 X4 B
  have hsz3 : W3.heap.size = w2.heap.size + 1 := by rw [hW3, setRow_size]; simp
  clear h8' hcell hv hy h8
  have X10 := Bx.new W3 #[.int .i8 0, .int .i8 0] 35
  replace R := R.alloc (.cells #[.int .i8 0, .int .i8 0] 35)
  replace X2 := X2.alloc (.cells #[.int .i8 0, .int .i8 0] 35)
  replace X4 := X4.alloc (.cells #[.int .i8 0, .int .i8 0] 35)
  replace B := al B (.cells #[.int .i8 0, .int .i8 0] 35)
  obtain ⟨W4, hW4⟩ : ∃ W4 : World, W4 = W3.alloc (.cells #[.int .i8 0, .int .i8 0] 35) := ⟨_, rfl⟩
  rw [← hW4] at R X2 X4 B X10
  go_wp2_with (first
    | (refine wpList_store_row rfl 64 (.tmp 8) (.tmp 22) rfl w2.heap.size cs rfl rfl 64 Tryd.zeroCells64 H8.out (by rw [info93, hsz]) (by rw [zc_size, hsz]) hone ?_))
  rw [← hW3, ← hW4]
  clear hW3 H8 hone hsz
  refine (points_any W H _ _ W4 hW0 hW hH X2).mono ?_
  rintro e w5 ⟨hb, va, rfl, O⟩
  obtain ⟨N, hN⟩ : ∃ N, N = (W + 1) * (H + 1) := ⟨_, rfl⟩
  rw [← hN] at O
  have hN0 : 0 < N := by rw [hN]; exact Nat.mul_pos (by omega) (by omega)
  have hN169 : N ≤ 169 := by rw [hN]; exact Nat.mul_le_mul (show W + 1 ≤ 13 by omega) (show H + 1 ≤ 13 by omega)
  obtain ⟨ga, cap, rfl, hga, hga2⟩ := own_some O (by rw [allC_length]; exact hN0)
  rw [allC_length] at *
  replace R := R.of_block (hb.block _ R.lt)
  replace X4 := X4.below hb
  have hl10 := X10.lt
  replace X10 := X10.below hb
  replace B := nxt B hb
  have HN := Lib.hid hN
  rw [hsz3] at X10 hl10
  obtain ⟨b10, hb10⟩ : ∃ b, b = w2.heap.size + 1 := ⟨_, rfl⟩
  rw [← hb10] at X10 hl10 ⊢
  have hne8 : w2.heap.size ≠ b10 := by omega
  have hne4 : w.heap.size + 1 ≠ b10 := by omega
  have hnea : ga ≠ b10 := by omega
  have hwb : w.heap.size ≤ b10 := by omega
  clear hb hN X2 hW4 hb10
  have HOK := Lib.hid (fun i (hi : i ≤ N) => lpts_ok (G := gridN c n) (years := years) (Wp := W + 1) (Hp := H + 1) (by omega) (by omega) hyr i (by rw [← HN.out]; exact hi))
  go_wp2_with fail
  go_loopw [11, 12, 14, 15, 16] (fun t11 t12 t14 t15 t16 wr => ∃ i : Nat, i ≤ N ∧ t14 = .int .i64 i ∧ t11 = .int .i64 ((lpts (gridN c n) years (W + 1) i).h : Int) ∧ t12 = .int .i64 ((lpts (gridN c n) years (W + 1) i).n : Int) ∧ Below w.heap.size w wr ∧ Bx wr (w.heap.size + 1) #[.int .i8 0, .int .i8 0] 35 ∧ Bx wr b10 #[.int .i8 (lpts (gridN c n) years (W + 1) i).x, .int .i8 (lpts (gridN c n) years (W + 1) i).y] 35 ∧ wr.rowIs w2.heap.size 64 144 (fun p => .int .i64 (gridN c n p)) ∧ OwnC wr W4.heap.size (.slice (some ⟨ga, 0, none⟩) N cap) (allC (W + 1) N)) (fun t11 t12 t14 t15 t16 wr => N - (intOf t14).toNat)
  case atStart => exact ⟨0, by omega, by simp, rfl, rfl, B, X4, X10, R, O⟩
  case round =>
    clear B X4 X10 R O
    obtain ⟨i, hi, rfl, rfl, rfl, B, X4, X10, R, O⟩ := hrel
    obtain ⟨wo, rfl⟩ : ∃ wo : World, wo = wr := ⟨_, rfl⟩
    have hok := HOK.out i hi
    obtain ⟨s, hs⟩ : ∃ s, s = lpts (gridN c n) years (W + 1) i := ⟨_, rfl⟩
    rw [← hs] at X10 hok
    have HSS := Lib.hid hs
    by_cases hlt : i < N
    · obtain ⟨x, y, hxy⟩ : ∃ x y, cl (W + 1) i = (x, y) := ⟨_, _, rfl⟩
      have hx : x < W + 1 := by
        have : (cl (W + 1) i).1 < W + 1 := Nat.mod_lt _ (by omega)
        rwa [hxy] at this
      have hy : y < H + 1 := by
        have : (cl (W + 1) i).2 < H + 1 := Nat.div_lt_of_lt_mul (by rw [← HN.out]; exact hlt)
        rwa [hxy] at this
      have hnext : lpts (gridN c n) years (W + 1) (i + 1) = lways (gridN c n) years x y s 4 := by
        show lways (gridN c n) years (i % (W + 1)) (i / (W + 1)) (lpts (gridN c n) years (W + 1) i) 4 = _
        have e1 : i % (W + 1) = x := congrArg Prod.fst hxy
        have e2 : i / (W + 1) = y := congrArg Prod.snd hxy
        rw [e1, e2, ← hs]
      have HNEXT := Lib.hid hnext
      have HWK := Lib.hid (fun k (hk : k ≤ 4) => lways_ok (G := gridN c n) (years := years) (x := x) (y := y) (s := s) hok (by omega) (by omega) hyr k hk)
      have hxi : (x : Int) ≤ 12 := by omega
      have hyi : (y : Int) ≤ 12 := by omega
      have hlti : (i : Int) < (N : Int) := by omega
      have HG := Lib.hid (fun k (hk : k < 4) W' hR => growS_any w2.heap.size (x : Int) (y : Int) k years (gridN c n) W' (by omega) (by omega) hk hyr hR)
      rw [← hs]
      clear hnext hok hs
      go_wp2_with fail
      go_loopw [11, 12, 15, 16] (fun t11 t12 t15 t16 wr => ∃ k : Nat, k ≤ 4 ∧ t15 = .int .i64 (k : Int) ∧ t11 = .int .i64 ((lways (gridN c n) years x y s k).h : Int) ∧ t12 = .int .i64 ((lways (gridN c n) years x y s k).n : Int) ∧ Below w.heap.size w wr ∧ Bx wr (w.heap.size + 1) #[.int .i8 0, .int .i8 0] 35 ∧ Bx wr b10 #[.int .i8 (lways (gridN c n) years x y s k).x, .int .i8 (lways (gridN c n) years x y s k).y] 35 ∧ wr.rowIs w2.heap.size 64 144 (fun p => .int .i64 (gridN c n p)) ∧ OwnC wr W4.heap.size (.slice (some ⟨ga, 0, none⟩) N cap) (allC (W + 1) N)) (fun t11 t12 t15 t16 wr => 4 - (intOf t15).toNat)
      case atStart => exact ⟨0, by omega, by simp, rfl, rfl, B, X4, X10, R, O⟩
      case round =>
        clear B X4 X10 R O
        obtain ⟨k, hk, rfl, rfl, rfl, B, X4, X10, R, O⟩ := hrel
        obtain ⟨wo, rfl⟩ : ∃ wo : World, wo = wr := ⟨_, rfl⟩
        obtain ⟨z, hz⟩ : ∃ z, z = lways (gridN c n) years x y s k := ⟨_, rfl⟩
        have hzok := HWK.out k hk
        rw [← hz] at X10 hzok ⊢
        have HZ := Lib.hid hz
        by_cases hk4 : k < 4
        · have hki : (k : Int) < 4 := by omega
          obtain ⟨c0, c1⟩ := OwnC.get O (allC_length (W + 1) N) (q := (x, y)) (by rw [allC_get (W + 1) N i hlt, hxy])
          have hstep : lways (gridN c n) years x y s (k + 1) = lstep (gridN c n) years x y k z := by rw [hz]; rfl
          have HST := Lib.hid hstep
          have HGG := Lib.hid (HG.out k hk4 wo R)
          clear hstep hz
          go_wp2_with fail
          refine HGG.out.mono ?_
          rintro e w6 ⟨hb, v, rfl, OP⟩
          obtain ⟨A, cap2, rfl, _⟩ := OP.shape
          replace X4 := X4.below hb
          replace X10 := X10.below hb
          replace R := R.of_block (hb.block _ R.lt)
          replace O := OwnC.below O hb
          replace B := nxt B hb
          obtain ⟨gn, hgn⟩ : ∃ gn, gn = (gst (gridN c n) x y k years).n := ⟨_, rfl⟩
          have hgn61 : gn ≤ 61 := by
            have := gst_in (G := gridN c n) (x := (x : Int)) (y := (y : Int)) (h := k) (by omega) (by omega) hk4 years
            omega
          rw [← hgn]
          have HGN := Lib.hid hgn
          clear hb OP HGG c0 c1 hgn
          obtain ⟨c0, c1⟩ := OwnC.get O (allC_length (W + 1) N) (q := (x, y)) (by rw [allC_get (W + 1) N i hlt, hxy])
          by_cases hgt : z.n < gn
          · have d1 : decide ((z.n : Int) < (gn : Int)) = true := by simp; omega
            have e2 := lstep_yes (G := gridN c n) (years := years) (x := x) (y := y) (h := k) (s := z) (by rw [← HGN.out]; exact hgt)
            rw [← HST.out, ← HGN.out] at e2
            have HE := Lib.hid e2
            have f0 := X10.frozen 0
            have f1 := X10.frozen 1
            have s0 := X10.cell 0
            have s1 := X10.cell 1
            simp only [List.getElem?_toArray, List.getElem?_cons_zero, List.getElem?_cons_succ] at s0 s1
            have Y10 := (X10.set 0 (.int .i8 (x : Int))).set 1 (.int .i8 (y : Int))
            have B7 := (B.setCell (p := ⟨b10, 0, none⟩) hwb (.int .i8 (x : Int))).setCell (p := ⟨b10, 1, none⟩) hwb (.int .i8 (y : Int))
            have hoth : ∀ k', k' ≠ b10 → ((w6.setCell ⟨b10, 0, none⟩ (.int .i8 (x : Int))).setCell ⟨b10, 1, none⟩ (.int .i8 (y : Int))).heap[k']? = w6.heap[k']? := fun k' hk' => (Below.heap_setCell _ _ _ k' hk').trans (Below.heap_setCell _ _ _ k' hk')
            have X41 := X4.of_block (hoth _ hne4)
            have R1 := R.of_block (hoth _ hne8)
            have O1 : OwnC ((w6.setCell ⟨b10, 0, none⟩ (.int .i8 (x : Int))).setCell ⟨b10, 1, none⟩ (.int .i8 (y : Int))) W4.heap.size (.slice (some ⟨ga, 0, none⟩) N cap) (allC (W + 1) N) := by
              refine ⟨O.1, O.2.imp id ?_⟩
              rintro ⟨g', cap', cur, h1, h2, h3, h4⟩
              refine ⟨g', cap', cur, h1, h2, ?_, h4⟩
              simp only [Value.slice.injEq, Option.some.injEq, Addr.mk.injEq] at h1
              rw [hoth g' (by rw [← h1.1.1]; exact hnea)]
              exact h3
            clear e2 X4 R O B X10 hoth
            go_wp2
            refine ⟨⟨k + 1, by omega, by first | go_num | simp, by rw [HE.out], by rw [HE.out], B7, X41, by rw [HE.out]; exact Y10, R1, O1⟩, by simp [intOf]; omega⟩
          · have d1 : decide ((z.n : Int) < (gn : Int)) = false := by simp; omega
            have e2 := lstep_no (G := gridN c n) (years := years) (x := x) (y := y) (h := k) (s := z) (by rw [← HGN.out]; exact hgt)
            rw [← HST.out] at e2
            have HE := Lib.hid e2
            clear e2 c0 c1
            go_wp2
            refine ⟨⟨k + 1, by omega, by first | go_num | simp, by rw [HE.out], by rw [HE.out], B, X4, by rw [HE.out]; exact X10, R, O⟩, by simp [intOf]; omega⟩
        · obtain rfl : k = 4 := by omega
          go_wp2
          refine ⟨⟨i + 1, by omega, by first | go_num | simp, by rw [HNEXT.out, ← HZ.out], by rw [HNEXT.out, ← HZ.out], B, X4, by rw [HNEXT.out, ← HZ.out]; exact X10, R, O⟩, by simp [intOf]; omega⟩
    · obtain rfl : i = N := by omega
      have c100 := X10.cell 0
      have c101 := X10.cell 1
      simp only [List.getElem?_toArray, List.getElem?_cons_zero, List.getElem?_cons_succ] at c100 c101
      obtain ⟨sx, hsx⟩ : ∃ sx, sx = s.x := ⟨_, rfl⟩
      obtain ⟨sy, hsy⟩ : ∃ sy, sy = s.y := ⟨_, rfl⟩
      rw [← hsx] at c100
      rw [← hsy] at c101
      have HXY := Lib.hid (And.intro hsx hsy)
      rw [← hs]
      clear hs hsx hsy hok
      have f40 := X4.frozen 0
      have f41 := X4.frozen 1
      have s40 := X4.cell 0
      have s41 := X4.cell 1
      simp only [List.getElem?_toArray, List.getElem?_cons_zero, List.getElem?_cons_succ] at s40 s41
      go_wp2
      have Y4 := (X4.set 0 (.int .i8 sx)).set 1 (.int .i8 sy)
      have q40 := Y4.cell 0
      have q41 := Y4.cell 1
      simp at q40 q41
      exact bodyPost_ret (v := .tuple #[.agg #[.int .i8 sx, .int .i8 sy], .int .i64 (s.h : Int), .int .i64 (s.n : Int), .int .i64 0]) (by simp [results, Tryd.results28, go_sem, q40, q41]) rfl ⟨((B.setCell (p := ⟨w.heap.size + 1, 0, none⟩) (by simp) (.int .i8 sx)).setCell (p := ⟨w.heap.size + 1, 1, none⟩) (by simp) (.int .i8 sy)), .inr (.inr ⟨HV.out, HYR.out, s, by rw [HSS.out, HN.out]; rfl, by rw [HXY.out.1, HXY.out.2]⟩)⟩
end Go.Proofs.YtmkcdelfgaogaaaDoor

namespace Go.Proofs.YtmkcdelfgaogaaaDoor
open Go Go.ChangeShapes Go.WideShapes Go.ChangeAt Go.RowKit Go.Shelf
set_option linter.unusedVariables false
set_option linter.unusedSimpArgs false
set_option maxRecDepth 100000
set_option maxHeartbeats 4000000
attribute [local go_sem] Oper.semAt_some

theorem points_in (F : Fence) (n : Nat) (h75 : F.fn 49) (h76 : F.fn 65) (hro : F.round = none) (x y : Int) (w : World) :
    CallsIn F (n + 1) Tryd.prog 49 #[.agg #[.int .i8 x, .int .i8 y]] w fun e w' => e = .returned (.func (.func 85) #[] #[.pointer (some ⟨w.heap.size + 1, 0, none⟩)]) ∧ w' = (w.alloc (.cells #[.int .i8 x, .int .i8 y] 96)).alloc (.cells #[.int .i8 0, .int .i8 0, .int .i8 x, .int .i8 y] 105) := by
  refine callsIn_of_wp Tryd.func49 rfl h75 ?_ hro
  simp only [Tryd.ntmps49, List.size_toArray, List.length_cons, List.length_nil, Nat.reduceAdd, Nat.reduceSub, Array.replicate_succ, Array.replicate_zero, List.push_toArray, List.append_toArray, List.nil_append, List.cons_append]
  gi_wp2_with fail
  refine (cellsOf_in F n h76 hro _ _ _ _ _).mono ?_
  rintro e w' ⟨rfl, rfl⟩
  gi_wp2
  go_ret
  exact ⟨by simp, rfl⟩

theorem longI_bad (X Y : Int) (g n : Nat) (c : Nat → Int) (yr : Int) (a0 a1 a2 : Addr) (w : World) (hX : -128 ≤ X ∧ X ≤ 127) (hY : -128 ≤ Y ∧ Y ≤ 127) (hc : ∀ j, -128 ≤ c j ∧ c j ≤ 127) (hm : n ≤ 1048576)
    (hrow : w.rowIs g 105 (4 * n) (fun j => .int .i8 (c j))) (hS : Sent w a0 a1 a2) (hbad : ¬ (Valid X Y n c ∧ (0 ≤ yr ∧ yr ≤ 60))) :
    Calls Tryd.prog 29 #[.agg #[.int .i8 X, .int .i8 Y, .slice (some ⟨g, 0, none⟩) n n], .int .i64 yr] w (LcPost X Y n c yr w) := by
  have HC := Lib.hid hc
  clear hc
  have X2 := ((Bx.new w #[.int .i8 X, .int .i8 Y, .slice (some ⟨g, 0, none⟩) n n] 33).alloc (.cells #[.int .i64 yr] 2)).alloc (.cells #[.int .i8 0, .int .i8 0] 35)
  have X3 := (Bx.new (w.alloc (.cells #[.int .i8 X, .int .i8 Y, .slice (some ⟨g, 0, none⟩) n n] 33)) #[.int .i64 yr] 2).alloc (.cells #[.int .i8 0, .int .i8 0] 35)
  have X4 := Bx.new ((w.alloc (.cells #[.int .i8 X, .int .i8 Y, .slice (some ⟨g, 0, none⟩) n n] 33)).alloc (.cells #[.int .i64 yr] 2)) #[.int .i8 0, .int .i8 0] 35
  have B := al (al (al (Below.refl w.heap.size w) (.cells #[.int .i8 X, .int .i8 Y, .slice (some ⟨g, 0, none⟩) n n] 33)) (.cells #[.int .i64 yr] 2)) (.cells #[.int .i8 0, .int .i8 0] 35)
  have e1 : (w.alloc (.cells #[.int .i8 X, .int .i8 Y, .slice (some ⟨g, 0, none⟩) n n] 33)).heap.size = w.heap.size + 1 := by simp
  have e2 : ((w.alloc (.cells #[.int .i8 X, .int .i8 Y, .slice (some ⟨g, 0, none⟩) n n] 33)).alloc (.cells #[.int .i64 yr] 2)).heap.size = w.heap.size + 1 + 1 := by simp
  rw [e1] at X3
  rw [e2] at X4
  obtain ⟨W0, hW0⟩ : ∃ W0 : World, W0 = ((w.alloc (.cells #[.int .i8 X, .int .i8 Y, .slice (some ⟨g, 0, none⟩) n n] 33)).alloc (.cells #[.int .i64 yr] 2)).alloc (.cells #[.int .i8 0, .int .i8 0] 35) := ⟨_, rfl⟩
  rw [← hW0] at X2 X3 X4 B
  clear e1 e2
  have HJ := Lib.hid (jointsFor_any X Y g n c none 0 0 (fun _ => 0) (fun _ => 0) a0 a1 a2 W0 hX hY HC.out hm (hrow.of_block (B.block _ hrow.lt)) (by omega) (by omega) (fun h => absurd h (by omega)) (fun _ => by omega) (fun _ => by omega) (hS.below B))
  have HBAD := Lib.hid hbad
  clear hbad
  go_enter Tryd.func29, Tryd.ntmps29
  go_wp2_with fail
  rw [← hW0]
  refine HJ.out.mono ?_
  rintro e w2 hp
  obtain ⟨hb, v1, v2, rfl, hcase⟩ := hp.two
  clear hp hW0 HJ
  replace X3 := (X3.below hb).alloc (.cells #[v1] 72)
  replace X4 := (X4.below hb).alloc (.cells #[v1] 72)
  replace B := al (nxt B hb) (.cells #[v1] 72)
  have S2 := hS.below B
  clear hb X2
  obtain ⟨W3, hW3⟩ : ∃ W3 : World, W3 = w2.alloc (.cells #[v1] 72) := ⟨_, rfl⟩
  rw [← hW3] at X3 X4 B S2
  rcases hcase with ⟨hv, rfl, rfl⟩ | ⟨hv, hn, rfl, rfl⟩ | ⟨hv, hy, m, rfl, rfl, hmw, hM⟩
  · have HV := Lib.hid hv
    clear hv
    go_wp2_with fail
    rw [← hW3]
    clear hW3
    refine (codeOf0 a0 a1 a2 W3 S2).mono ?_
    rintro e w3 ⟨rfl, hb⟩
    replace B := nxt B hb
    replace X4 := X4.below hb
    clear hb
    have f40 := X4.frozen 0
    have f41 := X4.frozen 1
    have s40 := X4.cell 0
    have s41 := X4.cell 1
    simp only [List.getElem?_toArray, List.getElem?_cons_zero, List.getElem?_cons_succ] at s40 s41
    go_wp2
    have Y4 := (X4.set 0 (.int .i8 0)).set 1 (.int .i8 0)
    have q40 := Y4.cell 0
    have q41 := Y4.cell 1
    simp at q40 q41
    exact bodyPost_ret (v := .tuple #[.agg #[.int .i8 0, .int .i8 0], .int .i64 0, .int .i64 0, .int .i64 1]) (by simp [results, Tryd.results29, go_sem, q40, q41]) rfl ⟨((B.setCell (p := ⟨w.heap.size + 1 + 1, 0, none⟩) (by simp; omega) (.int .i8 0)).setCell (p := ⟨w.heap.size + 1 + 1, 1, none⟩) (by simp; omega) (.int .i8 0)), .inl ⟨HV.out, rfl⟩⟩
  · exact absurd (fun j hj => absurd hj (by omega)) hn
  · have HV := Lib.hid hv
    have HYR := Lib.hid (show ¬ (0 ≤ yr ∧ yr ≤ 60) from fun h => HBAD.out ⟨hv, h⟩)
    have hc3 := X3.cell 0
    simp only [List.getElem?_toArray, List.getElem?_cons_zero] at hc3
    have HW := Lib.hid (within1b yr 0 60 false W3 (w2.heap.size + 1) (by rw [hW3]; simp) ⟨fun h => Bool.noConfusion h, fun h => absurd h HYR.out⟩)
    clear hv hy hmw hM
    rw [hW3] at hc3
    go_wp2_with fail
    rw [← hW3]
    clear hW3 hc3
    refine HW.out.mono ?_
    rintro e w4 ⟨rfl, hb⟩
    replace X4 := X4.below hb
    replace B := nxt B hb
    clear hb HW
    have f40 := X4.frozen 0
    have f41 := X4.frozen 1
    have s40 := X4.cell 0
    have s41 := X4.cell 1
    simp only [List.getElem?_toArray, List.getElem?_cons_zero, List.getElem?_cons_succ] at s40 s41
    go_wp2
    have Y4 := (X4.set 0 (.int .i8 0)).set 1 (.int .i8 0)
    have q40 := Y4.cell 0
    have q41 := Y4.cell 1
    simp at q40 q41
    exact bodyPost_ret (v := .tuple #[.agg #[.int .i8 0, .int .i8 0], .int .i64 0, .int .i64 0, .int .i64 2]) (by simp [results, Tryd.results29, go_sem, q40, q41]) rfl ⟨((B.setCell (p := ⟨w.heap.size + 1 + 1, 0, none⟩) (by simp; omega) (.int .i8 0)).setCell (p := ⟨w.heap.size + 1 + 1, 1, none⟩) (by simp; omega) (.int .i8 0)), .inr (.inl ⟨HV.out, HYR.out, rfl⟩)⟩
end Go.Proofs.YtmkcdelfgaogaaaDoor

namespace Go.Proofs.YtmkcdelfgaogaaaDoor
open Go Go.ChangeShapes Go.WideShapes Go.ChangeAt Go.RowKit Go.Shelf
set_option linter.unusedVariables false
set_option linter.unusedSimpArgs false
set_option maxRecDepth 100000
set_option maxHeartbeats 4000000
attribute [local go_sem] Oper.semAt_some

theorem ownFrom_bxD {β : Type} (B : Nat) (b : β → Nat) (cs : β → Array Value) (t : TypeId) : OwnFrom B (fun (s : β) V => Bx V (b s) (cs s) t) := fun s X Y row hs hg hr => by
  have h : X.heap[b s]? = some (.cells (cs s) t (0, 0)) := hs
  exact (hg.block _ (Array.getElem?_eq_some_iff.1 h).1 (fun e => by obtain ⟨o, ho, hc⟩ := (hr _ e.symm).2; rw [h] at ho; cases ho; cases hc)).trans h
theorem Bx.putD {V : World} {b D : Nat} {cs : Array Value} {t : TypeId} (h : Bx V b cs t) (hd : V.heap[D]? = some (.deferred (some []))) : Bx (V.putObj D (.deferred none)) b cs t :=
  ownFrom_bxD 0 (fun _ : Unit => b) (fun _ => cs) t () V _ (some D) h (grownBy_putObj' _ D (.deferred none)) (fun r e => by cases e; exact ⟨Nat.zero_le _, _, hd, rfl⟩)
theorem deferred_setD {V : World} {D : Nat} (hd : V.heap[D]? = some (.deferred (some []))) (a : Addr) (v : Value) : (V.setCell a v).heap[D]? = some (.deferred (some [])) :=
  (KeepsOthers.setCell V a v).same D _ hd rfl
/-- below N the world is as it was, but for two blocks. -/
structure BeY (a b N : Nat) (w w' : World) : Prop where
  os : w'.os = w.os
  tape : w'.tape = w.tape
  output : w'.output = w.output
  size : w.heap.size ≤ w'.heap.size
  block : ∀ k, k < N → k ≠ a → k ≠ b → w'.heap[k]? = w.heap[k]?
theorem BeY.of_below {a b N : Nat} {w w' : World} (h : Below N w w') : BeY a b N w w' := ⟨h.os, h.tape, h.output, h.size, fun k hk _ _ => h.block k hk⟩
theorem BeY.refl (a b N : Nat) (w : World) : BeY a b N w w := ⟨rfl, rfl, rfl, Nat.le_refl _, fun _ _ _ _ => rfl⟩
theorem BeY.trans {a b N : Nat} {u v w : World} (h : BeY a b N u v) (k : BeY a b N v w) : BeY a b N u w :=
  ⟨k.os.trans h.os, k.tape.trans h.tape, k.output.trans h.output, Nat.le_trans h.size k.size, fun i hi h1 h2 => (k.block i hi h1 h2).trans (h.block i hi h1 h2)⟩
theorem BeY.below {a b N N' : Nat} {w w' : World} (h : BeY a b N w w') (hN : N' ≤ N) (ha : N' ≤ a) (hb : N' ≤ b) : Below N' w w' := ⟨h.os, h.tape, h.output, h.size, fun k hk => h.block k (by omega) (by omega) (by omega)⟩
theorem BeY.set {a b N : Nat} {w : World} (g o : Nat) (v : Value) (hg : g = a ∨ g = b) : BeY a b N w (w.setCell ⟨g, o, none⟩ v) :=
  ⟨rfl, rfl, rfl, by simp [World.setCell], fun k hk h1 h2 => Below.heap_setCell w ⟨g, o, none⟩ v k (by show k ≠ g; rcases hg with rfl | rfl <;> assumption)⟩
/-- what a round keeps. -/
def TY (a b B q : Nat) (W' Wd : World) : Prop := KeepsFrom B W' Wd ∧ BeY a b B W' Wd ∧ KpB q W' Wd
theorem TY.refl (a b B q : Nat) (W' : World) : TY a b B q W' W' := ⟨KeepsFrom.refl _ _, BeY.refl _ _ _ _, Nat.le_refl _, rfl⟩
theorem TY.below {a b B q : Nat} {W' Wd w1 : World} (h : TY a b B q W' Wd) (hB : B ≤ W'.heap.size) (hq : q < B) (hb : Below Wd.heap.size Wd w1) : TY a b B q W' w1 :=
  ⟨h.1.trans (keepsFrom_below hb), h.2.1.trans (BeY.of_below (hb.mono (Nat.le_trans hB h.2.1.size))), kpB_trans h.2.2 (kpB_below hb (by have := h.2.1.size; omega))⟩
theorem TY.set {a b B q : Nat} {W' Wd : World} (h : TY a b B q W' Wd) (g o : Nat) (v : Value) (hg : g = a ∨ g = b) (hqa : q ≠ a) (hqb : q ≠ b) : TY a b B q W' (Wd.setCell ⟨g, o, none⟩ v) :=
  ⟨h.1.trans ((KeepsOthers.setCell _ _ _).from _), h.2.1.trans (BeY.set g o v hg), kpB_trans h.2.2 ⟨by simp [World.setCell], Below.heap_setCell Wd ⟨g, o, none⟩ v q (by show q ≠ g; rcases hg with rfl | rfl <;> assumption)⟩⟩
/-- the longest crack of the points of a list. -/
noncomputable def lpre (G : Nat → Int) (years : Nat) (pre : List CX3) : Lst := pre.foldl (fun s q => lways G years q.1.1 q.1.2 s 4) ⟨0, 0, 0, 0⟩
theorem lpre_snoc (G : Nat → Int) (years : Nat) (pre : List CX3) (x : CX3) : lpre G years (pre ++ [x]) = lways G years x.1.1 x.1.2 (lpre G years pre) 4 := by simp [lpre]
theorem lfold_ok {G : Nat → Int} {years : Nat} (hy : years ≤ 60) : ∀ (pre : List CX3) (s : Lst), LOk s → LOk (pre.foldl (fun s q => lways G years q.1.1 q.1.2 s 4) s)
  | [], s, h => h
  | q :: pre, s, h => lfold_ok hy pre _ (lways_ok h (by have := q.2.1; omega) (by have := q.2.2; omega) hy 4 (by omega))
theorem lpre_ok {G : Nat → Int} {years : Nat} (hy : years ≤ 60) (pre : List CX3) : LOk (lpre G years pre) :=
  lfold_ok hy pre _ ⟨by show 0 ≤ (0 : Int) ∧ (0 : Int) ≤ 12; omega, by show 0 ≤ (0 : Int) ∧ (0 : Int) ≤ 12; omega, by show 0 < 4; omega, by show 0 ≤ 61; omega⟩
theorem lpre_upto {G : Nat → Int} {years Wp Hp : Nat} (hW : Wp ≤ 13) (hH : Hp ≤ 13) : ∀ k, k ≤ Wp * Hp → lpre G years (uptoC3 0 0 Wp k) = lpts G years Wp k
  | 0, _ => rfl
  | k + 1, hk => by
    have h0 : 0 < Wp := by
      rcases Nat.eq_zero_or_pos Wp with e | e
      · subst e; simp at hk
      · exact e
    have h1 : k % Wp < Wp := Nat.mod_lt _ h0
    have h2 : k / Wp < Hp := Nat.div_lt_of_lt_mul (by omega)
    rw [uptoC_succ3, lpre_snoc, lpre_upto hW hH k (by omega)]
    show lways G years (min (0 + k % Wp) 12) (min (0 + k / Wp) 12) (lpts G years Wp k) 4 = lways G years (k % Wp) (k / Wp) (lpts G years Wp k) 4
    rw [show min (0 + k % Wp) 12 = k % Wp by omega, show min (0 + k / Wp) 12 = k / Wp by omega]
theorem longI_in (X Y : Int) (g n : Nat) (c : Nat → Int) (yr : Int) (a0 a1 a2 : Addr) (w : World) (hX : -128 ≤ X ∧ X ≤ 127) (hY : -128 ≤ Y ∧ Y ≤ 127) (hc : ∀ j, -128 ≤ c j ∧ c j ≤ 127) (hm : n ≤ 1048576)
    (hrow : w.rowIs g 105 (4 * n) (fun j => .int .i8 (c j))) (hS : Sent w a0 a1 a2) (hv : Valid X Y n c) (hyr : 0 ≤ yr ∧ yr ≤ 60) :
    CallsIn Fence.wide 7 Tryd.prog 29 #[.agg #[.int .i8 X, .int .i8 Y, .slice (some ⟨g, 0, none⟩) n n], .int .i64 yr] w (LcPost X Y n c yr w) := by
  have hro : Fence.wide.round = none := rfl
  have HC := Lib.hid hc
  clear hc
  have X2 := ((Bx.new w #[.int .i8 X, .int .i8 Y, .slice (some ⟨g, 0, none⟩) n n] 33).alloc (.cells #[.int .i64 yr] 2)).alloc (.cells #[.int .i8 0, .int .i8 0] 35)
  have X3 := (Bx.new (w.alloc (.cells #[.int .i8 X, .int .i8 Y, .slice (some ⟨g, 0, none⟩) n n] 33)) #[.int .i64 yr] 2).alloc (.cells #[.int .i8 0, .int .i8 0] 35)
  have X4 := Bx.new ((w.alloc (.cells #[.int .i8 X, .int .i8 Y, .slice (some ⟨g, 0, none⟩) n n] 33)).alloc (.cells #[.int .i64 yr] 2)) #[.int .i8 0, .int .i8 0] 35
  have B := al (al (al (Below.refl w.heap.size w) (.cells #[.int .i8 X, .int .i8 Y, .slice (some ⟨g, 0, none⟩) n n] 33)) (.cells #[.int .i64 yr] 2)) (.cells #[.int .i8 0, .int .i8 0] 35)
  have e1 : (w.alloc (.cells #[.int .i8 X, .int .i8 Y, .slice (some ⟨g, 0, none⟩) n n] 33)).heap.size = w.heap.size + 1 := by simp
  have e2 : ((w.alloc (.cells #[.int .i8 X, .int .i8 Y, .slice (some ⟨g, 0, none⟩) n n] 33)).alloc (.cells #[.int .i64 yr] 2)).heap.size = w.heap.size + 1 + 1 := by simp
  rw [e1] at X3
  rw [e2] at X4
  obtain ⟨W0, hW0⟩ : ∃ W0 : World, W0 = ((w.alloc (.cells #[.int .i8 X, .int .i8 Y, .slice (some ⟨g, 0, none⟩) n n] 33)).alloc (.cells #[.int .i64 yr] 2)).alloc (.cells #[.int .i8 0, .int .i8 0] 35) := ⟨_, rfl⟩
  rw [← hW0] at X2 X3 X4 B
  clear e1 e2
  have HJ := Lib.hid (jointsFor_any X Y g n c none 0 0 (fun _ => 0) (fun _ => 0) a0 a1 a2 W0 hX hY HC.out hm (hrow.of_block (B.block _ hrow.lt)) (by omega) (by omega) (fun h => absurd h (by omega)) (fun _ => by omega) (fun _ => by omega) (hS.below B))
  refine callsIn_of_wp_marks Tryd.func29 rfl trivial ?_ hro
  simp only [Tryd.ntmps29, List.size_toArray, List.length_cons, List.length_nil, Nat.reduceAdd, Nat.reduceSub, Array.replicate_succ, Array.replicate_zero, List.push_toArray, List.append_toArray, List.nil_append, List.cons_append]
  gi_wp2_with (refine ⟨trivial, ?_⟩; gi_at_call 34; rw [← hW0]; refine (callsIn_wide.2 HJ.out).mono ?_)
  rintro e w2 hp
  obtain ⟨hb, v1, v2, rfl, hcase⟩ := hp.two
  rw [← hW0] at hb
  clear hp hW0 HJ
  rcases hcase with ⟨hv', _, _⟩ | ⟨_, hn, _, _⟩ | ⟨_, hy, m, rfl, rfl, hmw, hM⟩
  · exact absurd hv hv'
  · exact absurd (fun j hj => absurd hj (by omega)) hn
  clear hy hmw
  obtain ⟨years, rfl⟩ : ∃ years : Nat, yr = years := Int.eq_ofNat_of_zero_le hyr.1
  have hy60 : years ≤ 60 := by have := hyr.2; omega
  obtain ⟨W, rfl⟩ : ∃ W : Nat, X = W := Int.eq_ofNat_of_zero_le (by have := hv.1; omega)
  obtain ⟨H, rfl⟩ : ∃ H : Nat, Y = H := Int.eq_ofNat_of_zero_le (by have := hv.2.2.1; omega)
  have hW0 : 1 ≤ W := by have := hv.1; omega
  have hW : W ≤ 12 := by have := hv.2.1; omega
  have hH : H ≤ 12 := by have := hv.2.2.2.1; omega
  have HV := Lib.hid hv
  have HYR := Lib.hid hyr
  have HJL := Lib.hid (fun ax ay bx by_ => jl_hasK hv ax ay bx by_)
  replace hM : EMap w2 m (jl W (gridN c n) (W * H)) := hM
  have hm0 := hM.lt
  have hs2 := B.size
  replace X2 := (X2.below hb).alloc (.cells #[.map (some m)] 72)
  replace X3 := (X3.below hb).alloc (.cells #[.map (some m)] 72)
  have hl4 := (X4.below hb).lt
  replace X4 := (X4.below hb).alloc (.cells #[.map (some m)] 72)
  have X8 := Bx.new w2 #[.map (some m)] 72
  replace hM := hM.alloc (.cells #[.map (some m)] 72)
  replace B := al (nxt B hb) (.cells #[.map (some m)] 72)
  obtain ⟨W3, hW3⟩ : ∃ W3 : World, W3 = w2.alloc (.cells #[.map (some m)] 72) := ⟨_, rfl⟩
  rw [← hW3] at X2 X3 X4 X8 B hM
  have HW := Lib.hid (within1b (years : Int) 0 60 true W3 (w2.heap.size + 1) (by rw [hW3]; simp) ⟨fun _ => HYR.out, fun _ => rfl⟩)
  have hs3 : W3.heap.size = w2.heap.size + 1 := by rw [hW3]; simp
  clear hv hyr hb
  have hc3 := X3.cell 0
  simp only [List.getElem?_toArray, List.getElem?_cons_zero] at hc3
  rw [hW3] at hc3
  gi_wp2_with (refine ⟨trivial, ?_⟩; gi_at_call 47; rw [← hW3]; refine (callsIn_wide.2 HW.out).mono ?_)
  clear hW3 hc3
  rintro e w4 ⟨rfl, hb⟩
  have hs4 := hb.size
  replace X2 := X2.below hb
  replace X3 := X3.below hb
  replace X4 := X4.below hb
  replace X8 := X8.below hb
  replace hM := hM.below hb hM.lt
  replace B := nxt B hb
  clear hb HW
  have X10 := (Bx.new w4 #[.int .i8 0, .int .i8 0, .int .i64 0] 92).alloc (.cells #[.int .i64 0] 3)
  have X11 := Bx.new (w4.alloc (.cells #[.int .i8 0, .int .i8 0, .int .i64 0] 92)) #[.int .i64 0] 3
  rw [World.size_alloc] at X11
  replace X2 := (X2.alloc (.cells #[.int .i8 0, .int .i8 0, .int .i64 0] 92)).alloc (.cells #[.int .i64 0] 3)
  replace X3 := (X3.alloc (.cells #[.int .i8 0, .int .i8 0, .int .i64 0] 92)).alloc (.cells #[.int .i64 0] 3)
  replace X4 := (X4.alloc (.cells #[.int .i8 0, .int .i8 0, .int .i64 0] 92)).alloc (.cells #[.int .i64 0] 3)
  replace X8 := (X8.alloc (.cells #[.int .i8 0, .int .i8 0, .int .i64 0] 92)).alloc (.cells #[.int .i64 0] 3)
  replace hM := (hM.alloc (.cells #[.int .i8 0, .int .i8 0, .int .i64 0] 92)).alloc (.cells #[.int .i64 0] 3)
  replace B := al (al B (.cells #[.int .i8 0, .int .i8 0, .int .i64 0] 92)) (.cells #[.int .i64 0] 3)
  obtain ⟨W5, hW5⟩ : ∃ W5 : World, W5 = (w4.alloc (.cells #[.int .i8 0, .int .i8 0, .int .i64 0] 92)).alloc (.cells #[.int .i64 0] 3) := ⟨_, rfl⟩
  have hs5 : W5.heap.size = w4.heap.size + 1 + 1 := by rw [hW5]; simp
  rw [← hW5] at X2 X3 X4 X8 X10 X11 hM B
  have p2 := X2.cell 0
  have q2 := X2.cell 1
  have r2 := X2.cell 2
  simp only [List.getElem?_toArray, List.getElem?_cons_zero, List.getElem?_cons_succ] at p2 q2 r2
  rw [hW5] at p2 q2 r2
  gi_wp2_with (refine ⟨trivial, ?_⟩; gi_at_call 48; rw [← hW5]; refine (callsIn_wide.2 (corners_any (W : Int) (H : Int) _ W5 (by omega) (by omega))).mono ?_)
  clear p2 q2 r2 hW5
  rintro e w6 ⟨rfl, hb⟩
  replace X3 := X3.below hb
  replace X4 := X4.below hb
  replace X8 := X8.below hb
  replace X10 := X10.below hb
  replace X11 := X11.below hb
  replace hM := hM.below hb hM.lt
  replace B := nxt B hb
  have hs6 := hb.size
  clear hb X2
  gi_wp2_with (refine ⟨trivial, ?_⟩; gi_at_call 49; refine (points_in Fence.wide 5 trivial trivial hro _ _ _).mono ?_; rintro e w' ⟨rfl, rfl⟩)
  have X3' := (X3.alloc (.cells #[.int .i8 ((W : Int) + 1), .int .i8 ((H : Int) + 1)] 96)).alloc (.cells #[.int .i8 0, .int .i8 0, .int .i8 ((W : Int) + 1), .int .i8 ((H : Int) + 1)] 105)
  have X4' := (X4.alloc (.cells #[.int .i8 ((W : Int) + 1), .int .i8 ((H : Int) + 1)] 96)).alloc (.cells #[.int .i8 0, .int .i8 0, .int .i8 ((W : Int) + 1), .int .i8 ((H : Int) + 1)] 105)
  have X8' := (X8.alloc (.cells #[.int .i8 ((W : Int) + 1), .int .i8 ((H : Int) + 1)] 96)).alloc (.cells #[.int .i8 0, .int .i8 0, .int .i8 ((W : Int) + 1), .int .i8 ((H : Int) + 1)] 105)
  have X10' := (X10.alloc (.cells #[.int .i8 ((W : Int) + 1), .int .i8 ((H : Int) + 1)] 96)).alloc (.cells #[.int .i8 0, .int .i8 0, .int .i8 ((W : Int) + 1), .int .i8 ((H : Int) + 1)] 105)
  have X11' := (X11.alloc (.cells #[.int .i8 ((W : Int) + 1), .int .i8 ((H : Int) + 1)] 96)).alloc (.cells #[.int .i8 0, .int .i8 0, .int .i8 ((W : Int) + 1), .int .i8 ((H : Int) + 1)] 105)
  have hM' := (hM.alloc (.cells #[.int .i8 ((W : Int) + 1), .int .i8 ((H : Int) + 1)] 96)).alloc (.cells #[.int .i8 0, .int .i8 0, .int .i8 ((W : Int) + 1), .int .i8 ((H : Int) + 1)] 105)
  have B' := al (al B (.cells #[.int .i8 ((W : Int) + 1), .int .i8 ((H : Int) + 1)] 96)) (.cells #[.int .i8 0, .int .i8 0, .int .i8 ((W : Int) + 1), .int .i8 ((H : Int) + 1)] 105)
  have zs := Sl.new (w6.alloc (.cells #[.int .i8 ((W : Int) + 1), .int .i8 ((H : Int) + 1)] 96)) 0 0 ((W : Int) + 1) ((H : Int) + 1) 105
  rw [World.size_alloc] at zs
  obtain ⟨V0, hV0⟩ : ∃ V0 : World, V0 = (w6.alloc (.cells #[.int .i8 ((W : Int) + 1), .int .i8 ((H : Int) + 1)] 96)).alloc (.cells #[.int .i8 0, .int .i8 0, .int .i8 ((W : Int) + 1), .int .i8 ((H : Int) + 1)] 105) := ⟨_, rfl⟩
  have hsV : V0.heap.size = w6.heap.size + 1 + 1 := by rw [hV0]; simp
  rw [← hV0] at X3' X4' X8' X10' X11' hM' B' zs ⊢
  clear hV0 X3 X4 X8 X10 X11 hM B
  obtain ⟨b10, hb10⟩ : ∃ b, b = w4.heap.size := ⟨_, rfl⟩
  obtain ⟨b11, hb11⟩ : ∃ b, b = w4.heap.size + 1 := ⟨_, rfl⟩
  obtain ⟨sb, hsb⟩ : ∃ b, b = w6.heap.size + 1 := ⟨_, rfl⟩
  rw [← hb11, ← hb10, ← hsb]
  rw [← hb10] at X10'
  rw [← hb11] at X11'
  rw [← hsb] at zs
  have hlm : m < b10 := by omega
  have h1011 : b10 < b11 := by omega
  have hne : b10 ≠ b11 := by omega
  have hsq : sb ≠ b10 := by omega
  have hsq2 : sb ≠ b11 := by omega
  have hsbV : sb < V0.heap.size := by omega
  have hl10 : b10 < V0.heap.size := X10'.lt
  have hl11 : b11 < V0.heap.size := X11'.lt
  have hw8 : w2.heap.size < b10 := by omega
  have hww : w.heap.size + 1 + 1 < w2.heap.size := hl4
  have hstops := cells_stops3 Fence.wide 6 trivial hro (by omega) sb 0 0 (W + 1) (H + 1) (by omega) (by omega) V0 (by simpa using zs)
  clear zs hs2 hs3 hs4 hs5 hs6 hsV hb10 hb11 hsb hl4 hm0
  refine wpIn_rangeFunc_ownH hro (by omega) (gf := 85) (lb := #[.pointer (some ⟨sb, 0, none⟩)]) rfl trivial (enters_of Tryd.func85 (by kernel_rfl) rfl)
    hstops kpB_trans (kpB_put hsbV) (Below.refl _ _) (fun _ => rfl)
    (fun pre W' => BeY b10 b11 V0.heap.size V0 W' ∧ Bx W' b10 #[.int .i8 (lpre (gridN c n) years pre).x, .int .i8 (lpre (gridN c n) years pre).y, .int .i64 ((lpre (gridN c n) years pre).h : Int)] 92 ∧ Bx W' b11 #[.int .i64 ((lpre (gridN c n) years pre).n : Int)] 3)
    (fun _ _ _ => False)
    (fun s X Y row hs hg hr => ⟨hs.1.trans ⟨hg.os, hg.tape, hg.output, hg.size, fun k hk _ _ => hg.block k (Nat.lt_of_lt_of_le hk hs.1.size) (fun e => by have := (hr k e.symm).1; omega)⟩,
      hs.2.1.of_block (hg.block _ hs.2.1.lt (fun e => by have := (hr _ e.symm).1; omega)), hs.2.2.of_block (hg.block _ hs.2.2.lt (fun e => by have := (hr _ e.symm).1; omega))⟩)
    (fun _ _ _ _ _ hs _ _ => hs)
    ⟨BeY.refl _ _ _ _, X10', X11'⟩
    (fun x a' W' => ∃ Bx', V0.heap.size ≤ Bx' ∧ Bx W' Bx' #[.int .i8 (x.1.1 : Int), .int .i8 (x.1.2 : Int)] 35 ∧ a' = { tmps := #[.agg #[.int .i8 (W : Int), .int .i8 (H : Int), .slice (some ⟨g, 0, none⟩) n n], .int .i64 (years : Int), .pointer (some ⟨w.heap.size, 0, none⟩), .pointer (some ⟨w.heap.size + 1, 0, none⟩), .pointer (some ⟨w.heap.size + 1 + 1, 0, none⟩), .int .i64 0, .int .i64 0, .int .i64 0, .pointer (some ⟨w2.heap.size, 0, none⟩), .nilIface, .pointer (some ⟨b10, 0, none⟩), .pointer (some ⟨b11, 0, none⟩), .pointer (some ⟨Bx', 0, none⟩), undef, undef, undef, .tuple #[.map (some m), .nilIface], .agg #[.int .i8 (W : Int), .int .i8 (H : Int), .slice (some ⟨g, 0, none⟩) n n], .tuple #[.map (some m), .nilIface], .map (some m), .nilIface, .nilIface, .bool false, undef, undef, undef, .int .i64 (years : Int), .slice (some ⟨w2.heap.size + 1, 0, none⟩) 1 1, .bool true, .bool false, undef, .agg #[.int .i8 (W : Int), .int .i8 (H : Int), .slice (some ⟨g, 0, none⟩) n n], .agg #[.int .i8 ((W : Int) + 1), .int .i8 ((H : Int) + 1)], .func (.func 85) #[] #[.pointer (some ⟨sb, 0, none⟩)], .agg #[.int .i8 (x.1.1 : Int), .int .i8 (x.1.2 : Int)], undef, undef, undef, undef, undef, undef, undef, undef, undef, undef, undef, undef, undef, undef, undef, undef, undef, undef, undef, undef, undef, undef], defers := [] })
    (fun x a' _ X Y row hs hg hr => by obtain ⟨Bx', h1, h2, h3⟩ := hs; exact ⟨Bx', h1, cellsKept h2 hg (fun r e => (hr r e).2), h3⟩)
    ?assign ?body ?done ?stop
  case assign =>
    rintro l pre x W' K ⟨hB1, hX1, hX2⟩ hK
    dsimp only [encC3]
    gi_wp2
    have hsW := hB1.size
    exact hK _ _ ((KeepsOthers.alloc _ _).from _) (kpB_below ((Below.refl _ W').alloc (Nat.le_refl _) _) (by omega)) ⟨hB1.trans (BeY.of_below ((Below.refl _ W').alloc (by omega) _)), hX1.alloc _, hX2.alloc _⟩ ⟨W'.heap.size, hsW, Bx.new W' _ _, rfl⟩
  case body =>
    rintro l pre x a' W' hl hrr ⟨hB1, hX1, hX2⟩ ⟨Bx', hBx, hX, rfl⟩ hlt
    have hsW := hB1.size
    have x12 := x.2.1
    have y12 := x.2.2
    have hsok := lpre_ok (G := gridN c n) hy60 pre
    obtain ⟨s, hs⟩ : ∃ s, s = lpre (gridN c n) years pre := ⟨_, rfl⟩
    have hsn := lpre_snoc (gridN c n) years pre x
    rw [← hs] at hX1 hX2 hsok hsn
    have HSN := Lib.hid hsn
    have HB1 := Lib.hid hB1
    obtain ⟨xx, hxx⟩ : ∃ xx, xx = x.1.1 := ⟨_, rfl⟩
    obtain ⟨yy, hyy⟩ : ∃ yy, yy = x.1.2 := ⟨_, rfl⟩
    rw [← hxx] at x12 hX
    rw [← hyy] at y12 hX
    rw [← hxx, ← hyy]
    rw [← hxx, ← hyy] at HSN
    have HWK := Lib.hid (fun k (hk : k ≤ 4) => lways_ok (G := gridN c n) (years := years) (x := xx) (y := yy) (s := s) hsok (by omega) (by omega) hy60 k hk)
    have HG := Lib.hid (fun k (hk : k < 4) W1 (hmm : EMap W1 m (jl W (gridN c n) (W * H))) => growI_any m _ (xx : Int) (yy : Int) k years (gridN c n) W1 (by omega) (by omega) hk hy60 hmm HJL.out)
    have T0 := TY.refl b10 b11 V0.heap.size sb W'
    clear hs hsn hxx hyy hsok hB1
    gi_wp2_with fail
    gi_loopw [13, 14, 15] (fun t13 t14 t15 wr => ∃ k : Nat, k ≤ 4 ∧ t13 = .int .i64 (k : Int) ∧ TY b10 b11 V0.heap.size sb W' wr ∧ Bx wr b10 #[.int .i8 (lways (gridN c n) years xx yy s k).x, .int .i8 (lways (gridN c n) years xx yy s k).y, .int .i64 ((lways (gridN c n) years xx yy s k).h : Int)] 92 ∧ Bx wr b11 #[.int .i64 ((lways (gridN c n) years xx yy s k).n : Int)] 3 ∧ Bx wr Bx' #[.int .i8 (xx : Int), .int .i8 (yy : Int)] 35) (fun t13 t14 t15 _ => 4 - (intOf t13).toNat)
    case atStart => exact ⟨0, by omega, by first | rfl | simp, T0, hX1, hX2, hX⟩
    case round =>
      clear T0 hX1 hX2 hX
      obtain ⟨k, hk, rfl, T, hX1, hX2, hX⟩ := hrel
      obtain ⟨vi, rfl⟩ : ∃ vi : World, vi = wr := ⟨_, rfl⟩
      obtain ⟨z, hz⟩ : ∃ z, z = lways (gridN c n) years xx yy s k := ⟨_, rfl⟩
      have hzok := HWK.out k hk
      rw [← hz] at hX1 hX2 hzok
      have HZ := Lib.hid hz
      by_cases hk4 : k < 4
      · have hki : (k : Int) ≤ 3 := by omega
        have hstep : lways (gridN c n) years xx yy s (k + 1) = lstep (gridN c n) years xx yy k z := by rw [hz]; rfl
        have HST := Lib.hid hstep
        have hall := HB1.out.trans T.2.1
        have hM1 := hM'.of_block (hall.block _ hM'.lt (by omega) (by omega))
        have h3 := X3'.of_block (hall.block _ X3'.lt (by omega) (by omega))
        have h8 := X8'.of_block (hall.block _ X8'.lt (by omega) (by omega))
        have Xt := Bx.new vi #[.int .i8 (xx : Int), .int .i8 (yy : Int), .int .i64 (k : Int)] 92
        have T1 := T.below hsW hsbV (al (Below.refl vi.heap.size vi) (.cells #[.int .i8 (xx : Int), .int .i8 (yy : Int), .int .i64 (k : Int)] 92))
        replace hM1 := hM1.alloc (.cells #[.int .i8 (xx : Int), .int .i8 (yy : Int), .int .i64 (k : Int)] 92)
        replace h3 := h3.alloc (.cells #[.int .i8 (xx : Int), .int .i8 (yy : Int), .int .i64 (k : Int)] 92)
        replace h8 := h8.alloc (.cells #[.int .i8 (xx : Int), .int .i8 (yy : Int), .int .i64 (k : Int)] 92)
        have hX0 := hX.cell 0
        have hX0' := hX.cell 1
        replace hX1 := hX1.alloc (.cells #[.int .i8 (xx : Int), .int .i8 (yy : Int), .int .i64 (k : Int)] 92)
        replace hX2 := hX2.alloc (.cells #[.int .i8 (xx : Int), .int .i8 (yy : Int), .int .i64 (k : Int)] 92)
        replace hX := hX.alloc (.cells #[.int .i8 (xx : Int), .int .i8 (yy : Int), .int .i64 (k : Int)] 92)
        obtain ⟨V1, hV1⟩ : ∃ V1 : World, V1 = vi.alloc (.cells #[.int .i8 (xx : Int), .int .i8 (yy : Int), .int .i64 (k : Int)] 92) := ⟨_, rfl⟩
        rw [← hV1] at Xt T1 hM1 h3 h8 hX1 hX2 hX
        have HGG := Lib.hid (HG.out k hk4 V1 hM1)
        have c3 := h3.cell 0
        have c8 := h8.cell 0
        have t0 := Xt.cell 0
        have t1 := Xt.cell 1
        have t2 := Xt.cell 2
        simp only [List.getElem?_toArray, List.getElem?_cons_zero, List.getElem?_cons_succ] at hX0 hX0' c3 c8 t0 t1 t2
        have tb : vi.heap.size ≠ b10 := by have := T.2.1.size; omega
        have tb2 : vi.heap.size ≠ b11 := by have := T.2.1.size; omega
        have hbx0 : Bx' ≠ b10 := by omega
        have hbx1 : Bx' ≠ b11 := by omega
        rw [hV1] at c3 c8 t0 t1 t2
        clear hstep hz hall
        gi_wp2_with (refine ⟨trivial, ?_⟩; gi_at_call 50; rw [← hV1]; refine (CallsIn.inRound l (callsIn_wide.2 HGG.out)).mono ?_)
        clear hX0 hX0' c3 c8 t0 t1 t2 hV1
        rintro e w8 ⟨hb, v, rfl, OP⟩
        obtain ⟨A, cap2, rfl, _⟩ := OP.shape
        have T2 := T1.below hsW hsbV hb
        replace Xt := Xt.below hb
        replace hX1 := hX1.below hb
        replace hX2 := hX2.below hb
        replace hX := hX.below hb
        obtain ⟨gn, hgn⟩ : ∃ gn, gn = (gst (gridN c n) xx yy k years).n := ⟨_, rfl⟩
        have hgn61 : gn ≤ 61 := by
          have := gst_in (G := gridN c n) (x := (xx : Int)) (y := (yy : Int)) (h := k) (by omega) (by omega) hk4 years
          omega
        rw [← hgn]
        have HGN := Lib.hid hgn
        have HT2 := Lib.hid T2
        clear hb OP HGG hgn T T1 T2 hM1 h3 h8
        have t0 := Xt.cell 0
        have t1 := Xt.cell 1
        have t2 := Xt.cell 2
        have c11 := hX2.cell 0
        simp only [List.getElem?_toArray, List.getElem?_cons_zero, List.getElem?_cons_succ] at t0 t1 t2 c11
        by_cases hgt : z.n < gn
        · have d1 : decide ((z.n : Int) < (gn : Int)) = true := by simp; omega
          have e2 := lstep_yes (G := gridN c n) (years := years) (x := xx) (y := yy) (h := k) (s := z) (by rw [← HGN.out]; exact hgt)
          rw [← HST.out, ← HGN.out] at e2
          have HE := Lib.hid e2
          have f0 := hX1.frozen 0
          have f1 := hX1.frozen 1
          have f2 := hX1.frozen 2
          have f3 := hX2.frozen 0
          have s0 := hX1.cell 0
          have s1 := hX1.cell 1
          have s2 := hX1.cell 2
          simp only [List.getElem?_toArray, List.getElem?_cons_zero, List.getElem?_cons_succ] at s0 s1 s2
          have Y10 := (((hX1.set 0 (.int .i8 (xx : Int))).set 1 (.int .i8 (yy : Int))).set 2 (.int .i64 (k : Int))).other (g := b11) (o := 0) (.int .i64 (gn : Int)) hne
          have Y11 := (((hX2.other (g := b10) (o := 0) (.int .i8 (xx : Int)) hne.symm).other (g := b10) (o := 1) (.int .i8 (yy : Int)) hne.symm).other (g := b10) (o := 2) (.int .i64 (k : Int)) hne.symm).set 0 (.int .i64 (gn : Int))
          have YX := (((hX.other (g := b10) (o := 0) (.int .i8 (xx : Int)) hbx0).other (g := b10) (o := 1) (.int .i8 (yy : Int)) hbx0).other (g := b10) (o := 2) (.int .i64 (k : Int)) hbx0).other (g := b11) (o := 0) (.int .i64 (gn : Int)) hbx1
          have T3 := (((HT2.out.set b10 0 (.int .i8 (xx : Int)) (.inl rfl) hsq hsq2).set b10 1 (.int .i8 (yy : Int)) (.inl rfl) hsq hsq2).set b10 2 (.int .i64 (k : Int)) (.inl rfl) hsq hsq2).set b11 0 (.int .i64 (gn : Int)) (.inr rfl) hsq hsq2
          have HT3 := Lib.hid T3
          clear e2 T3 HT2
          gi_wp2
          refine ⟨⟨k + 1, by omega, by first | go_num | simp, HT3.out, ?_, ?_, YX⟩, by simp [intOf]; omega⟩
          · rw [HE.out]; exact Y10
          · rw [HE.out]; exact Y11
        · have d1 : decide ((z.n : Int) < (gn : Int)) = false := by simp; omega
          have e2 := lstep_no (G := gridN c n) (years := years) (x := xx) (y := yy) (h := k) (s := z) (by rw [← HGN.out]; exact hgt)
          rw [← HST.out] at e2
          have HE := Lib.hid e2
          clear e2 t0 t1 t2
          gi_wp2
          refine ⟨⟨k + 1, by omega, by first | go_num | simp, HT2.out, ?_, ?_, hX⟩, by simp [intOf]; omega⟩
          · rw [HE.out]; exact hX1
          · rw [HE.out]; exact hX2
      · obtain rfl : k = 4 := by omega
        have HT := Lib.hid T
        clear T
        gi_wp2
        refine ⟨HT.out.1, HT.out.2.2, HB1.out.trans HT.out.2.1, ?_, ?_⟩
        · rw [HSN.out, ← HZ.out]; exact hX1
        · rw [HSN.out, ← HZ.out]; exact hX2
  case done =>
    rintro D zs' V hD rfl ⟨hBe, hX1, hX2⟩ hdef
    have e := lpre_upto (G := gridN c n) (years := years) (Wp := W + 1) (Hp := H + 1) (by omega) (by omega) _ (Nat.le_refl ((W + 1) * (H + 1)))
    rw [e] at hX1 hX2
    obtain ⟨s, hs⟩ : ∃ s, s = lpts (gridN c n) years (W + 1) ((W + 1) * (H + 1)) := ⟨_, rfl⟩
    rw [← hs] at hX1 hX2
    have HSS := Lib.hid hs
    have h4V : Bx V (w.heap.size + 1 + 1) #[.int .i8 0, .int .i8 0] 35 := X4'.of_block (hBe.block _ X4'.lt (by omega) (by omega))
    have BB := B'.trans (hBe.below (N' := w.heap.size) (by have := B'.size; omega) (by omega) (by omega))
    have hDl := (Array.getElem?_eq_some_iff.1 hdef).1
    have hD2 : w.heap.size ≤ D := by have := B'.size; omega
    have p1 := hX1.cell 0
    have q1 := hX1.cell 1
    have r1 := hX1.cell 2
    have u1 := hX2.cell 0
    simp only [List.getElem?_toArray, List.getElem?_cons_zero, List.getElem?_cons_succ] at p1 q1 r1 u1
    have f40 := h4V.frozen 0
    have f41 := h4V.frozen 1
    have s40 := h4V.cell 0
    have s41 := h4V.cell 1
    simp only [List.getElem?_toArray, List.getElem?_cons_zero, List.getElem?_cons_succ] at s40 s41
    obtain ⟨sx, hsx⟩ : ∃ sx, sx = s.x := ⟨_, rfl⟩
    obtain ⟨sy, hsy⟩ : ∃ sy, sy = s.y := ⟨_, rfl⟩
    obtain ⟨sh, hsh⟩ : ∃ sh, sh = s.h := ⟨_, rfl⟩
    obtain ⟨sn, hsn⟩ : ∃ sn, sn = s.n := ⟨_, rfl⟩
    rw [← hsx] at p1 hX1
    rw [← hsy] at q1 hX1
    rw [← hsh] at r1 hX1
    rw [← hsn] at u1 hX2
    have HPQ := Lib.hid (And.intro hsx (And.intro hsy (And.intro hsh hsn)))
    clear e hs hsx hsy hsh hsn hBe X3' X4' X8' X10' X11' hM' B'
    gi_wp2_with fail
    refine wpIn_wide.2 ?_
    rename_i Kh hKh
    refine Code.wp_mono (Q := Exit.then (fun aa ww => Code.wpIn Fence.wide 7 Tryd.prog Code.ret (bodyPostM Fence.wide 7 Tryd.prog Tryd.f29 (LcPost (W : Int) (H : Int) n c (years : Int) w)) aa ww) (fun _ _ _ => False)) (fun e a w hq => by cases e <;> first | exact hKh _ _ hq | exact hq.elim) ?_
    refine wp_region_held_drew (S := (fun w' : World => w'.cell? ⟨b10, 0, none⟩ = some (.int .i8 sx) ∧ w'.cell? ⟨b10, 1, none⟩ = some (.int .i8 sy) ∧ w'.cell? ⟨b10, 2, none⟩ = some (.int .i64 (sh : Int)) ∧ w'.cell? ⟨b11, 0, none⟩ = some (.int .i64 (sn : Int)))) (by kernel_rfl) ⟨p1, q1, r1, u1⟩ (fun hHeld => ?_)
    refine wpAnyH_take (i := 0) (oi := _) (v := ?_) rfl (by kernel_rfl) (by kernel_rfl) (by kernel_rfl) (fun _ _ _ h => h) (Or.inl ⟨by kernel_rfl, ?_⟩) (by assumption) ?_
    rotate_left
    · intro w hSw; (try dsimp only at hSw); go_simp; first | done | with_reducible rfl
    try simp only [List.getElem_toArray, List.getElem_cons_zero, List.getElem_cons_succ, Act.put, List.setIfInBounds_toArray, List.set_cons_zero, List.set_cons_succ]
    refine wpAnyH_take (i := 1) (oi := _) (v := ?_) rfl (by kernel_rfl) (by kernel_rfl) (by kernel_rfl) (fun _ _ _ h => h) (Or.inl ⟨by kernel_rfl, ?_⟩) (by assumption) ?_
    rotate_left
    · intro w hSw; (try dsimp only at hSw); go_simp; first | done | with_reducible rfl
    try simp only [List.getElem_toArray, List.getElem_cons_zero, List.getElem_cons_succ, Act.put, List.setIfInBounds_toArray, List.set_cons_zero, List.set_cons_succ]
    refine wpAnyH_take (i := 2) (oi := _) (v := ?_) rfl (by kernel_rfl) (by kernel_rfl) (by kernel_rfl) (fun _ _ _ h => h) (Or.inl ⟨by kernel_rfl, ?_⟩) (by assumption) ?_
    rotate_left
    · intro w hSw; (try dsimp only at hSw); go_simp; first | done | with_reducible rfl
    try simp only [List.getElem_toArray, List.getElem_cons_zero, List.getElem_cons_succ, Act.put, List.setIfInBounds_toArray, List.set_cons_zero, List.set_cons_succ]
    refine wpAnyH_take (i := 3) (oi := _) (v := ?_) rfl (by kernel_rfl) (by kernel_rfl) (by kernel_rfl) (fun _ _ _ h => h) (Or.inl ⟨by kernel_rfl, ?_⟩) (by assumption) ?_
    rotate_left
    · intro w hSw; (try dsimp only at hSw); go_simp; first | done | with_reducible rfl
    try simp only [List.getElem_toArray, List.getElem_cons_zero, List.getElem_cons_succ, Act.put, List.setIfInBounds_toArray, List.set_cons_zero, List.set_cons_succ]
    refine wpAnyH_take (i := 4) (oi := _) (v := ?_) rfl (by kernel_rfl) (by kernel_rfl) (by kernel_rfl) (fun _ _ _ h => h) (Or.inl ⟨by kernel_rfl, ?_⟩) (by assumption) ?_
    rotate_left
    · intro w hSw; (try dsimp only at hSw); go_simp; first | done | with_reducible rfl
    try simp only [List.getElem_toArray, List.getElem_cons_zero, List.getElem_cons_succ, Act.put, List.setIfInBounds_toArray, List.set_cons_zero, List.set_cons_succ]
    refine wpAnyH_ready (rs := [5]) (by kernel_rfl) (by simp) ?_
    refine AllReadyH.cons (o := _) rfl (fun K hK => ?_) AllReadyH.nil
    go_simp
    have Y4 := ((Bx.drew h4V).set 0 (.int .i8 sx)).set 1 (.int .i8 sy)
    replace hX1 := ((Bx.drew hX1).other (g := w.heap.size + 1 + 1) (o := 0) (.int .i8 sx) (by omega)).other (g := w.heap.size + 1 + 1) (o := 1) (.int .i8 sy) (by omega)
    replace hX2 := ((Bx.drew hX2).other (g := w.heap.size + 1 + 1) (o := 0) (.int .i8 sx) (by omega)).other (g := w.heap.size + 1 + 1) (o := 1) (.int .i8 sy) (by omega)
    clear p1 q1 r1 u1
    have p1 := hX1.cell 0
    have q1 := hX1.cell 1
    have r1 := hX1.cell 2
    have u1 := hX2.cell 0
    simp only [List.getElem?_toArray, List.getElem?_cons_zero, List.getElem?_cons_succ] at p1 q1 r1 u1
    refine hK.out _ _ ⟨p1, q1, r1, u1⟩ (fun hHeld => ?_)
    clear hK K
    try simp only [List.getElem_toArray, List.getElem_cons_zero, List.getElem_cons_succ, Act.put, List.setIfInBounds_toArray, List.set_cons_zero, List.set_cons_succ]
    refine wpAnyH_take (i := 6) (oi := _) (v := ?_) rfl (by kernel_rfl) (by kernel_rfl) (by kernel_rfl) (fun _ _ _ h => h) (Or.inl ⟨by kernel_rfl, ?_⟩) (by assumption) ?_
    rotate_left
    · intro w hSw; (try dsimp only at hSw); go_simp; first | done | with_reducible rfl
    try simp only [List.getElem_toArray, List.getElem_cons_zero, List.getElem_cons_succ, Act.put, List.setIfInBounds_toArray, List.set_cons_zero, List.set_cons_succ]
    refine wpAnyH_take (i := 7) (oi := _) (v := ?_) rfl (by kernel_rfl) (by kernel_rfl) (by kernel_rfl) (fun _ _ _ h => h) (Or.inl ⟨by kernel_rfl, ?_⟩) (by assumption) ?_
    rotate_left
    · intro w hSw; (try dsimp only at hSw); go_simp; first | done | with_reducible rfl
    try simp only [List.getElem_toArray, List.getElem_cons_zero, List.getElem_cons_succ, Act.put, List.setIfInBounds_toArray, List.set_cons_zero, List.set_cons_succ]
    refine wpAnyH_take (i := 8) (oi := _) (v := ?_) rfl (by kernel_rfl) (by kernel_rfl) (by kernel_rfl) (fun _ _ _ h => h) (Or.inl ⟨by kernel_rfl, ?_⟩) (by assumption) ?_
    rotate_left
    · intro w hSw; (try dsimp only at hSw); go_simp; first | done | with_reducible rfl
    try simp only [List.getElem_toArray, List.getElem_cons_zero, List.getElem_cons_succ, Act.put, List.setIfInBounds_toArray, List.set_cons_zero, List.set_cons_succ]
    refine wpAnyH_done (by kernel_rfl) ?_ _
    change Code.wpIn Fence.wide 7 Tryd.prog Code.ret (bodyPostM Fence.wide 7 Tryd.prog Tryd.f29 (LcPost (W : Int) (H : Int) n c (years : Int) w)) _ _
    clear p1 q1 r1 u1 s40 s41 f40 f41 hX1 hX2 h4V
    gi_wp2
    have hd' := deferred_setD (deferred_setD (show V.drew.heap[D]? = some (.deferred (some [])) from hdef) ⟨w.heap.size + 1 + 1, 0, none⟩ (.int .i8 sx)) ⟨w.heap.size + 1 + 1, 1, none⟩ (.int .i8 sy)
    have y4 : Bx ((((V.setCell ⟨w.heap.size + 1 + 1, 0, none⟩ (.int .i8 sx)).setCell ⟨w.heap.size + 1 + 1, 1, none⟩ (.int .i8 sy)).drew).putObj D (.deferred none)) (w.heap.size + 1 + 1) ((#[.int .i8 0, .int .i8 0].setIfInBounds 0 (.int .i8 sx)).setIfInBounds 1 (.int .i8 sy)) 35 := Y4.putD hd'
    have q40 := y4.cell 0
    have q41 := y4.cell 1
    simp only [List.setIfInBounds_toArray, List.set_cons_zero, List.set_cons_succ, List.getElem?_toArray, List.getElem?_cons_zero, List.getElem?_cons_succ] at q40 q41
    refine ⟨by simp, .inl ⟨_, _, rfl, run_takeDeferred hd', ?_⟩⟩
    refine ⟨.tuple #[.agg #[.int .i8 sx, .int .i8 sy], .int .i64 (sh : Int), .int .i64 (sn : Int), .int .i64 0], by simp [results, Tryd.results29, go_sem, q40, q41], ?_, .inr (.inr ⟨HV.out, HYR.out, s, by rw [HSS.out]; rfl, by rw [HPQ.out.1, HPQ.out.2.1, HPQ.out.2.2.1, HPQ.out.2.2.2]⟩)⟩
    exact ((BB.drew.setCell (p := ⟨w.heap.size + 1 + 1, 0, none⟩) (by show w.heap.size ≤ w.heap.size + 1 + 1; omega) _).setCell (p := ⟨w.heap.size + 1 + 1, 1, none⟩) (by show w.heap.size ≤ w.heap.size + 1 + 1; omega) _).trans (belowK_b (w := w) (Nat.le_refl _) _ D _ _ hD2 hd' rfl rfl)
  case stop =>
    rintro D c pre W _ _ h _
    exact h.elim
end Go.Proofs.YtmkcdelfgaogaaaDoor

namespace Go.Proofs.YtmkcdelfgaogaaaDoor.longestCrack
open Go Go.ChangeShapes Go.WideShapes Go.ChangeAt Go.RowKit
set_option linter.unusedVariables false
set_option linter.unusedSimpArgs false
set_option maxRecDepth 100000
set_option maxHeartbeats 4000000

theorem both (X Y : Int) (n : Nat) (c : Nat → Int) (yr : Int) (a0 a1 a2 : Addr) (w : World) (hX : -128 ≤ X ∧ X ≤ 127) (hY : -128 ≤ Y ∧ Y ≤ 127) (hc : ∀ j, -128 ≤ c j ∧ c j ≤ 127) (hm : n ≤ 1048576) (hyr : (Lit.int .i64 yr).wf = true) (hE : Sent w a0 a1 a2) :
    ∃ (p0 q0 z1 z2 z3 : Int),
      (∀ (W : World) (G0 : Nat), Below w.heap.size w W → Ab W G0 n c → Calls Tryd.prog 28 #[.agg #[.int .i8 X, .int .i8 Y, .slice (some ⟨G0, 0, none⟩) n n], .int .i64 yr] W fun e w' => Below W.heap.size W w' ∧ e = .returned (.tuple #[.agg #[.int .i8 p0, .int .i8 q0], .int .i64 z1, .int .i64 z2, .int .i64 z3])) ∧
      (∀ (W : World) (G0 : Nat), Below w.heap.size w W → Ab W G0 n c → Calls Tryd.prog 29 #[.agg #[.int .i8 X, .int .i8 Y, .slice (some ⟨G0, 0, none⟩) n n], .int .i64 yr] W fun e w' => Below W.heap.size W w' ∧ e = .returned (.tuple #[.agg #[.int .i8 p0, .int .i8 q0], .int .i64 z1, .int .i64 z2, .int .i64 z3])) := by
  have one : ∃ (p0 q0 z1 z2 z3 : Int), ∀ W e w', LcPost X Y n c yr W e w' → Below W.heap.size W w' ∧ e = .returned (.tuple #[.agg #[.int .i8 p0, .int .i8 q0], .int .i64 z1, .int .i64 z2, .int .i64 z3]) := by
    by_cases hv : Valid X Y n c
    · by_cases hp : 0 ≤ yr ∧ yr ≤ 60
      · obtain ⟨s0, hs0⟩ : ∃ s0, s0 = lpts (gridN c n) yr.toNat (X.toNat + 1) ((X.toNat + 1) * (Y.toNat + 1)) := ⟨_, rfl⟩
        refine ⟨s0.x, s0.y, (s0.h : Int), (s0.n : Int), 0, fun W e w' h => ⟨h.1, ?_⟩⟩
        rcases h.2 with ⟨h1, _⟩ | ⟨_, h1, _⟩ | ⟨_, _, s, hs, h1⟩
        · exact absurd hv h1
        · exact absurd hp h1
        · rw [← hs0] at hs; subst hs; exact h1
      · refine ⟨0, 0, 0, 0, 2, fun W e w' h => ⟨h.1, ?_⟩⟩
        rcases h.2 with ⟨h1, _⟩ | ⟨_, _, h1⟩ | ⟨_, h1, _⟩
        · exact absurd hv h1
        · exact h1
        · exact absurd h1 hp
    · refine ⟨0, 0, 0, 0, 1, fun W e w' h => ⟨h.1, ?_⟩⟩
      rcases h.2 with ⟨_, h1⟩ | ⟨h1, _⟩ | ⟨h1, _⟩
      · exact h1
      · exact absurd h1 hv
      · exact absurd h1 hv
  obtain ⟨p0, q0, z1, z2, z3, h⟩ := one
  refine ⟨p0, q0, z1, z2, z3, fun W g hb R => (specLc_any X Y g n c yr W hX hY hc hm R.row).mono fun e w' hp => h W e w' hp, fun W g hb R => ?_⟩
  by_cases hgood : Valid X Y n c ∧ (0 ≤ yr ∧ yr ≤ 60)
  · exact (callsIn_wide.1 (longI_in X Y g n c yr a0 a1 a2 W hX hY hc hm R.row (hE.below hb) hgood.1 hgood.2)).mono fun e w' hp => h W e w' hp
  · exact (longI_bad X Y g n c yr a0 a1 a2 W hX hY hc hm R.row (hE.below hb) hgood).mono fun e w' hp => h W e w' hp
end Go.Proofs.YtmkcdelfgaogaaaDoor.longestCrack
