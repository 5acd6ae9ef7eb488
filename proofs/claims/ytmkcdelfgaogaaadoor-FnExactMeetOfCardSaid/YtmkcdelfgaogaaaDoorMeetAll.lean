/-
  What a row that lists three, or four, sentinels of errors.New's make gives a walk: each variable's pointer, that they differ, and their rows. It names no program. The frame of the laws whose rows list the package's errors: what the listing gives a walk, and a world that meets it. Conditions stand at each. The post of a law whose row names variables: what the walk must give. Conditions stand at each. Lists of points: read, owned; l06Along and isCrack, l06Has. Conditions stand at each. slices.Grow of nil and slices.Concat of two lists of points. Conditions stand at each. Look-ups in a map of bools that the call made; a set of numbers as such a map. No condition. A set of points: map[Cell]bool that the call made. Conditions stand at each. MeetOf on the model's side. Conditions stand at each. jointsAlong, and MeetOf on the program's side. Conditions stand at each. Both sides of MeetOf answer the same. Conditions stand at each.
-/
import Derived.Stop.LaidErr
import Derived.Test.YtmkcdelfgaogaaaDoorRows
import Derived.Test.YtmkcdelfgaogaaaDoorBase
import Derived.Test.YtmkcdelfgaogaaaDoorJoAll
import Derived.ChangeSame
import Derived.ChangeVars
import Derived.JoinedOf
import Derived.RowKit
import Derived.RowKitTokens
import Derived.LaidLaws
import Derived.LaidHandle
import Derived.Stop.Joined
import Derived.Stop.ErrReads
import Derived.Test.YtmkcdelfgaogaaaDoorFrame
import Derived.Test.YtmkcdelfgaogaaaDoorOwnC
import Derived.Test.YtmkcdelfgaogaaaDoorCellL
import Derived.Lib.AppendZeros
import Derived.Maps.OwnIn
import Derived.Maps.Views
import Derived.WalkKit
import Derived.Test.YtmkcdelfgaogaaaDoorNums
import Derived.Maps.OwnSet
import Derived.DeepKeys4
import Derived.WideKeyPair
import Derived.Deep.QuietTactic
import Derived.Test.YtmkcdelfgaogaaaDoorIsJointS
import Derived.Test.YtmkcdelfgaogaaaDoorSlabN
namespace Go.Proofs.YtmkcdelfgaogaaaDoor
open Go Go.RowKit Go.ChangeShapes
set_option linter.unusedVariables false
theorem laid_sentinels3 {P : Program} {n0 n1 n2 nm : String} {text0 text1 text2 : List UInt8} {r : List (String × DataW Unit)} {W : World} {g0 g1 g2 : Nat} {ti tp te ts : TypeId} {ms : Array (String × TypeId)} {f : Field}
    (h : laidMet P ((n0, .iface nm (.ptr (.agg [.lit (.string text0)]))) :: (n1, .iface nm (.ptr (.agg [.lit (.string text1)]))) :: (n2, .iface nm (.ptr (.agg [.lit (.string text2)]))) :: r) W)
    (hg0 : P.globalNamed n0 = some g0) (ht0 : (P.globals[g0]?).map (·.type) = some ti)
    (hg1 : P.globalNamed n1 = some g1) (ht1 : (P.globals[g1]?).map (·.type) = some ti)
    (hg2 : P.globalNamed n2 = some g2) (ht2 : (P.globals[g2]?).map (·.type) = some ti)
    (hi : P.underlying ti = some (.interface ms)) (hrow : ∀ u, P.typeName? 3 u = some nm → u = tp)
    (hp : P.underlying tp = some (.pointer te)) (he : P.underlying te = some (.struct #[f])) (hft : f.type = ts) (hfo : f.offset = 0) (hs : P.underlying ts = some .string) (hc : P.cellsOf te = 1) (hcs : P.cellsOf ts = 1) :
    ∃ (a0 a1 a2 : Addr), W.var? P n0 = some #[.iface tp (.pointer (some a0))] ∧ W.var? P n1 = some #[.iface tp (.pointer (some a1))] ∧ W.var? P n2 = some #[.iface tp (.pointer (some a2))] ∧ (∃ c t, W.heap[a0.block]? = some (.cells c t (0, 0))) ∧ (∃ c t, W.heap[a1.block]? = some (.cells c t (0, 0))) ∧ (∃ c t, W.heap[a2.block]? = some (.cells c t (0, 0))) ∧ a0 ≠ a1 ∧ a0 ≠ a2 ∧ a1 ≠ a2 := by
  obtain ⟨ps, ⟨g0', t0', cs0, f0, p0, q0, hg0', ht0', hv0, hd0, ⟨g1', t1', cs1, f1, p1, q1, hg1', ht1', hv1, hd1, ⟨g2', t2', cs2, f2, p2, q2, hg2', ht2', hv2, hd2, _, e2⟩, e1⟩, e0⟩, hnd, hrows⟩ := h
  obtain rfl := Option.some.inj (hg0.symm.trans hg0')
  obtain rfl := Option.some.inj (ht0.symm.trans ht0')
  obtain rfl := Option.some.inj (hg1.symm.trans hg1')
  obtain rfl := Option.some.inj (ht1.symm.trans ht1')
  obtain rfl := Option.some.inj (hg2.symm.trans hg2')
  obtain rfl := Option.some.inj (ht2.symm.trans ht2')
  subst e2
  subst e1
  subst e0
  obtain ⟨l0⟩ := cs0
  obtain ⟨l1⟩ := cs1
  obtain ⟨l2⟩ := cs2
  have ok0 : ∀ u v, l0 = [.iface u v] → Value.okWide P W .any 0 u v := fun u v e => by
    subst e
    exact (hrows g0 0 (by simp [MemPlace.row])).2 u v (by simpa using World.var?_cell hg0' hv0 0)
  have ok1 : ∀ u v, l1 = [.iface u v] → Value.okWide P W .any 0 u v := fun u v e => by
    subst e
    exact (hrows g1 0 (by simp [MemPlace.row])).2 u v (by simpa using World.var?_cell hg1' hv1 0)
  have ok2 : ∀ u v, l2 = [.iface u v] → Value.okWide P W .any 0 u v := fun u v e => by
    subst e
    exact (hrows g2 0 (by simp [MemPlace.row])).2 u v (by simpa using World.var?_cell hg2' hv2 0)
  obtain ⟨a0, s0, rfl, hc0, hs0, hz0, rfl⟩ := errorString_of_trod hi hrow hp he hft hfo hs hc hcs hd0 ok0
  obtain ⟨a1, s1, rfl, hc1, hs1, hz1, rfl⟩ := errorString_of_trod hi hrow hp he hft hfo hs hc hcs hd1 ok1
  obtain ⟨a2, s2, rfl, hc2, hs2, hz2, rfl⟩ := errorString_of_trod hi hrow hp he hft hfo hs hc hcs hd2 ok2
  have hb0 := (hrows a0.block a0.off (by simp [MemPlace.row])).1
  have hb1 := (hrows a1.block a1.off (by simp [MemPlace.row])).1
  have hb2 := (hrows a2.block a2.off (by simp [MemPlace.row])).1
  refine ⟨a0, a1, a2, hv0, hv1, hv2, hb0, hb1, hb2, ?_, ?_, ?_⟩
  · rintro rfl
    simp [MemPlace.row] at hnd
  · rintro rfl
    simp [MemPlace.row] at hnd
  · rintro rfl
    simp [MemPlace.row] at hnd
theorem vars_read3n {H : Type} (enc : TypeId × Value → H) {P : Program} {W : World} {n0 n1 n2 : String} {g0 g1 g2 : Nat} {ti : TypeId} {ms : Array (String × TypeId)} {x0 x1 x2 : Value}
    (hg0 : P.globalNamed n0 = some g0) (ht0 : (P.globals[g0]?).map (·.type) = some ti) (h0 : W.var? P n0 = some #[x0]) (ix0 : IsIface x0)
    (hg1 : P.globalNamed n1 = some g1) (ht1 : (P.globals[g1]?).map (·.type) = some ti) (h1 : W.var? P n1 = some #[x1]) (ix1 : IsIface x1)
    (hg2 : P.globalNamed n2 = some g2) (ht2 : (P.globals[g2]?).map (·.type) = some ti) (h2 : W.var? P n2 = some #[x2]) (ix2 : IsIface x2)
    (hi : P.underlying ti = some (.interface ms)) (sp : Nat → Bool) :
    DataW.TrodVars enc P W sp [n0, n1, n2] [tok enc x0, tok enc x1, tok enc x2] [.cell g0 0, .cell g1 0, .cell g2 0] :=
  ⟨g0, ti, #[x0], 1, [], [.cell g1 0, .cell g2 0], hg0, ht0, h0, trod_held hi ix0 0, ⟨g1, ti, #[x1], 1, [], [.cell g2 0], hg1, ht1, h1, trod_held hi ix1 0, ⟨g2, ti, #[x2], 1, [], [], hg2, ht2, h2, trod_held hi ix2 0, rfl, rfl⟩, rfl⟩, rfl⟩
theorem laid_sentinels4 {P : Program} {n0 n1 n2 n3 nm : String} {text0 text1 text2 text3 : List UInt8} {r : List (String × DataW Unit)} {W : World} {g0 g1 g2 g3 : Nat} {ti tp te ts : TypeId} {ms : Array (String × TypeId)} {f : Field}
    (h : laidMet P ((n0, .iface nm (.ptr (.agg [.lit (.string text0)]))) :: (n1, .iface nm (.ptr (.agg [.lit (.string text1)]))) :: (n2, .iface nm (.ptr (.agg [.lit (.string text2)]))) :: (n3, .iface nm (.ptr (.agg [.lit (.string text3)]))) :: r) W)
    (hg0 : P.globalNamed n0 = some g0) (ht0 : (P.globals[g0]?).map (·.type) = some ti)
    (hg1 : P.globalNamed n1 = some g1) (ht1 : (P.globals[g1]?).map (·.type) = some ti)
    (hg2 : P.globalNamed n2 = some g2) (ht2 : (P.globals[g2]?).map (·.type) = some ti)
    (hg3 : P.globalNamed n3 = some g3) (ht3 : (P.globals[g3]?).map (·.type) = some ti)
    (hi : P.underlying ti = some (.interface ms)) (hrow : ∀ u, P.typeName? 3 u = some nm → u = tp)
    (hp : P.underlying tp = some (.pointer te)) (he : P.underlying te = some (.struct #[f])) (hft : f.type = ts) (hfo : f.offset = 0) (hs : P.underlying ts = some .string) (hc : P.cellsOf te = 1) (hcs : P.cellsOf ts = 1) :
    ∃ (a0 a1 a2 a3 : Addr), W.var? P n0 = some #[.iface tp (.pointer (some a0))] ∧ W.var? P n1 = some #[.iface tp (.pointer (some a1))] ∧ W.var? P n2 = some #[.iface tp (.pointer (some a2))] ∧ W.var? P n3 = some #[.iface tp (.pointer (some a3))] ∧ (∃ c t, W.heap[a0.block]? = some (.cells c t (0, 0))) ∧ (∃ c t, W.heap[a1.block]? = some (.cells c t (0, 0))) ∧ (∃ c t, W.heap[a2.block]? = some (.cells c t (0, 0))) ∧ (∃ c t, W.heap[a3.block]? = some (.cells c t (0, 0))) ∧ a0 ≠ a1 ∧ a0 ≠ a2 ∧ a0 ≠ a3 ∧ a1 ≠ a2 ∧ a1 ≠ a3 ∧ a2 ≠ a3 := by
  obtain ⟨ps, ⟨g0', t0', cs0, f0, p0, q0, hg0', ht0', hv0, hd0, ⟨g1', t1', cs1, f1, p1, q1, hg1', ht1', hv1, hd1, ⟨g2', t2', cs2, f2, p2, q2, hg2', ht2', hv2, hd2, ⟨g3', t3', cs3, f3, p3, q3, hg3', ht3', hv3, hd3, _, e3⟩, e2⟩, e1⟩, e0⟩, hnd, hrows⟩ := h
  obtain rfl := Option.some.inj (hg0.symm.trans hg0')
  obtain rfl := Option.some.inj (ht0.symm.trans ht0')
  obtain rfl := Option.some.inj (hg1.symm.trans hg1')
  obtain rfl := Option.some.inj (ht1.symm.trans ht1')
  obtain rfl := Option.some.inj (hg2.symm.trans hg2')
  obtain rfl := Option.some.inj (ht2.symm.trans ht2')
  obtain rfl := Option.some.inj (hg3.symm.trans hg3')
  obtain rfl := Option.some.inj (ht3.symm.trans ht3')
  subst e3
  subst e2
  subst e1
  subst e0
  obtain ⟨l0⟩ := cs0
  obtain ⟨l1⟩ := cs1
  obtain ⟨l2⟩ := cs2
  obtain ⟨l3⟩ := cs3
  have ok0 : ∀ u v, l0 = [.iface u v] → Value.okWide P W .any 0 u v := fun u v e => by
    subst e
    exact (hrows g0 0 (by simp [MemPlace.row])).2 u v (by simpa using World.var?_cell hg0' hv0 0)
  have ok1 : ∀ u v, l1 = [.iface u v] → Value.okWide P W .any 0 u v := fun u v e => by
    subst e
    exact (hrows g1 0 (by simp [MemPlace.row])).2 u v (by simpa using World.var?_cell hg1' hv1 0)
  have ok2 : ∀ u v, l2 = [.iface u v] → Value.okWide P W .any 0 u v := fun u v e => by
    subst e
    exact (hrows g2 0 (by simp [MemPlace.row])).2 u v (by simpa using World.var?_cell hg2' hv2 0)
  have ok3 : ∀ u v, l3 = [.iface u v] → Value.okWide P W .any 0 u v := fun u v e => by
    subst e
    exact (hrows g3 0 (by simp [MemPlace.row])).2 u v (by simpa using World.var?_cell hg3' hv3 0)
  obtain ⟨a0, s0, rfl, hc0, hs0, hz0, rfl⟩ := errorString_of_trod hi hrow hp he hft hfo hs hc hcs hd0 ok0
  obtain ⟨a1, s1, rfl, hc1, hs1, hz1, rfl⟩ := errorString_of_trod hi hrow hp he hft hfo hs hc hcs hd1 ok1
  obtain ⟨a2, s2, rfl, hc2, hs2, hz2, rfl⟩ := errorString_of_trod hi hrow hp he hft hfo hs hc hcs hd2 ok2
  obtain ⟨a3, s3, rfl, hc3, hs3, hz3, rfl⟩ := errorString_of_trod hi hrow hp he hft hfo hs hc hcs hd3 ok3
  have hb0 := (hrows a0.block a0.off (by simp [MemPlace.row])).1
  have hb1 := (hrows a1.block a1.off (by simp [MemPlace.row])).1
  have hb2 := (hrows a2.block a2.off (by simp [MemPlace.row])).1
  have hb3 := (hrows a3.block a3.off (by simp [MemPlace.row])).1
  refine ⟨a0, a1, a2, a3, hv0, hv1, hv2, hv3, hb0, hb1, hb2, hb3, ?_, ?_, ?_, ?_, ?_, ?_⟩
  · rintro rfl
    simp [MemPlace.row] at hnd
  · rintro rfl
    simp [MemPlace.row] at hnd
  · rintro rfl
    simp [MemPlace.row] at hnd
  · rintro rfl
    simp [MemPlace.row] at hnd
  · rintro rfl
    simp [MemPlace.row] at hnd
  · rintro rfl
    simp [MemPlace.row] at hnd
theorem vars_read4n {H : Type} (enc : TypeId × Value → H) {P : Program} {W : World} {n0 n1 n2 n3 : String} {g0 g1 g2 g3 : Nat} {ti : TypeId} {ms : Array (String × TypeId)} {x0 x1 x2 x3 : Value}
    (hg0 : P.globalNamed n0 = some g0) (ht0 : (P.globals[g0]?).map (·.type) = some ti) (h0 : W.var? P n0 = some #[x0]) (ix0 : IsIface x0)
    (hg1 : P.globalNamed n1 = some g1) (ht1 : (P.globals[g1]?).map (·.type) = some ti) (h1 : W.var? P n1 = some #[x1]) (ix1 : IsIface x1)
    (hg2 : P.globalNamed n2 = some g2) (ht2 : (P.globals[g2]?).map (·.type) = some ti) (h2 : W.var? P n2 = some #[x2]) (ix2 : IsIface x2)
    (hg3 : P.globalNamed n3 = some g3) (ht3 : (P.globals[g3]?).map (·.type) = some ti) (h3 : W.var? P n3 = some #[x3]) (ix3 : IsIface x3)
    (hi : P.underlying ti = some (.interface ms)) (sp : Nat → Bool) :
    DataW.TrodVars enc P W sp [n0, n1, n2, n3] [tok enc x0, tok enc x1, tok enc x2, tok enc x3] [.cell g0 0, .cell g1 0, .cell g2 0, .cell g3 0] :=
  ⟨g0, ti, #[x0], 1, [], [.cell g1 0, .cell g2 0, .cell g3 0], hg0, ht0, h0, trod_held hi ix0 0, ⟨g1, ti, #[x1], 1, [], [.cell g2 0, .cell g3 0], hg1, ht1, h1, trod_held hi ix1 0, ⟨g2, ti, #[x2], 1, [], [.cell g3 0], hg2, ht2, h2, trod_held hi ix2 0, ⟨g3, ti, #[x3], 1, [], [], hg3, ht3, h3, trod_held hi ix3 0, rfl, rfl⟩, rfl⟩, rfl⟩, rfl⟩
end Go.Proofs.YtmkcdelfgaogaaaDoor

namespace Go.Proofs.YtmkcdelfgaogaaaDoor
open Go Go.ChangeShapes Go.WideShapes Go.ChangeAt Go.RowKit
set_option linter.unusedVariables false
set_option maxRecDepth 100000
theorem var_below {P : Program} {W W' : World} {n : String} {cs : Array Value} (h : W.var? P n = some cs) (hb : Below W.heap.size W W') : W'.var? P n = some cs := by
  unfold World.var? at h ⊢
  cases hg : P.globalNamed n with
  | none => simp [hg] at h
  | some g =>
    simp only [hg, Option.bind_some] at h ⊢
    have hlt : g < W.heap.size := by
      rcases Nat.lt_or_ge g W.heap.size with h' | h'
      · exact h'
      · simp [Array.getElem?_eq_none h'] at h
    rw [hb.block g hlt]
    exact h
theorem gl_errNotValid : Tryd.prog.globalNamed "loop.example/g01383/impl.errNotValid" = some 0 := by kernel_rfl
theorem gt_errNotValid : (Tryd.prog.globals[0]?).map (·.type) = some 74 := by kernel_rfl
theorem gl_errBeyond : Tryd.prog.globalNamed "loop.example/g01383/impl.errBeyond" = some 1 := by kernel_rfl
theorem gt_errBeyond : (Tryd.prog.globals[1]?).map (·.type) = some 74 := by kernel_rfl
theorem gl_errTooMany : Tryd.prog.globalNamed "loop.example/g01383/impl.errTooMany" = some 2 := by kernel_rfl
theorem gt_errTooMany : (Tryd.prog.globals[2]?).map (·.type) = some 74 := by kernel_rfl
theorem gl_errNoJoint : Tryd.prog.globalNamed "loop.example/g01383/impl.errNoJoint" = some 3 := by kernel_rfl
theorem gt_errNoJoint : (Tryd.prog.globals[3]?).map (·.type) = some 74 := by kernel_rfl
theorem starErr : "*" ++ "errors.errorString" = "*errors.errorString" := by decide
theorem rowErr (u : TypeId) (h : Tryd.prog.typeName? 3 u = some "*errors.errorString") : u = 165 :=
  typeName_ptr_named (nm := "errors.errorString") (by rw [starErr]; kernel_rfl) (by kernel_rfl) (by decide) u (by rw [starErr]; exact h)
/-- the text of an error. -/
def textOf : DataW Unit → ByteArray
  | .iface _ (.ptr (.agg [.lit (.string bs)])) => ⟨bs.toArray⟩
  | _ => default
/-- the four errors. -/
structure Sent4 (W : World) (a0 a1 a2 a3 : Addr) : Prop where
  s : Sent W a0 a1 a2
  c3 : W.cell? ⟨3, 0, none⟩ = some (.iface 165 (.pointer (some a3)))
  h3 : ∃ c t, W.heap[a3.block]? = some (.cells c t (0, 0))
  n03 : a0 ≠ a3
  n13 : a1 ≠ a3
  n23 : a2 ≠ a3
theorem Sent4.below {W W' : World} {a0 a1 a2 a3 : Addr} (h : Sent4 W a0 a1 a2 a3) (hb : Below W.heap.size W W') : Sent4 W' a0 a1 a2 a3 :=
  ⟨h.s.below hb, cell_below h.c3 hb, row_below h.h3 hb, h.n03, h.n13, h.n23⟩

/-- what the rows list of the package's 3 errors. -/
abbrev laidSents3 : List (String × DataW Unit) := [("loop.example/g01383/impl.errNotValid", Rows.laid_loop_example_g01383_impl_errNotValid), ("loop.example/g01383/impl.errBeyond", Rows.laid_loop_example_g01383_impl_errBeyond), ("loop.example/g01383/impl.errTooMany", Rows.laid_loop_example_g01383_impl_errTooMany)]
/-- the variables hold their pointers. -/
structure Vr3 (W : World) (a0 a1 a2 : Addr) : Prop where
  v0 : W.var? Tryd.prog "loop.example/g01383/impl.errNotValid" = some #[.iface 165 (.pointer (some a0))]
  v1 : W.var? Tryd.prog "loop.example/g01383/impl.errBeyond" = some #[.iface 165 (.pointer (some a1))]
  v2 : W.var? Tryd.prog "loop.example/g01383/impl.errTooMany" = some #[.iface 165 (.pointer (some a2))]
theorem Vr3.below {W W' : World} {a0 a1 a2 : Addr} (h : Vr3 W a0 a1 a2) (hb : Below W.heap.size W W') : Vr3 W' a0 a1 a2 := ⟨var_below h.v0 hb, var_below h.v1 hb, var_below h.v2 hb⟩
theorem sents3_of_laid {W : World} (h : laidMetH Tryd.prog laidSents3 W) : ∃ a0 a1 a2, Sent W a0 a1 a2 ∧ Vr3 W a0 a1 a2 := by
  have h' : laidMet Tryd.prog laidSents3 W := h
  obtain ⟨a0, a1, a2, hv0, hv1, hv2, hb0, hb1, hb2, n01, n02, n12⟩ := laid_sentinels3 (P := Tryd.prog) (r := []) (ti := 74) (tp := 165) (te := 191) (ts := 9) h' gl_errNotValid gt_errNotValid gl_errBeyond gt_errBeyond gl_errTooMany gt_errTooMany Tryd.underlying74 rowErr Tryd.underlying165 Tryd.underlying191 rfl rfl Tryd.underlying9 (by kernel_rfl) (by kernel_rfl)
  exact ⟨a0, a1, a2, ⟨by simpa using World.var?_cell gl_errNotValid hv0 0, by simpa using World.var?_cell gl_errBeyond hv1 0, by simpa using World.var?_cell gl_errTooMany hv2 0, hb0, hb1, hb2, n01, n02, n12⟩, hv0, hv1, hv2⟩
/-- a world that meets the condition. -/
noncomputable def laidWorldS3 (os : Os) : World :=
  let low := (World.holding Tryd.prog default ⟨#[], #[], []⟩).heap.size
  let w0 := World.holding Tryd.prog os ⟨#[.cells #[.string (textOf Rows.laid_loop_example_g01383_impl_errNotValid)] 191, .cells #[.string (textOf Rows.laid_loop_example_g01383_impl_errBeyond)] 191, .cells #[.string (textOf Rows.laid_loop_example_g01383_impl_errTooMany)] 191], #[], []⟩
  let put (h : Array Obj) (g k : Nat) : Array Obj := h.modify g fun
    | .cells _ t frozen => .cells #[.iface 165 (.pointer (some ⟨low + k, 0, none⟩))] t frozen
    | o => o
  { w0 with heap := (put (put (put w0.heap 0 0) 1 1) 2 2) }
theorem laidWorldS3_met (os : Os) (args : Array Value) : laidMetH Tryd.prog laidSents3 ((laidWorldS3 os).forCall (fun _ _ => 0) ⟨#[], args, []⟩).memory := by
  show laidMet Tryd.prog laidSents3 _
  exact laidMet_of_run' 8 (by kernel_rfl) (by kernel_rfl)
theorem vars123 {H : Type} (enc : TypeId × Value → H) {W : World} {a0 a1 a2 : Addr} (h : Vr3 W a0 a1 a2) (sp : Nat → Bool) :
    DataW.TrodVars enc Tryd.prog W sp ["loop.example/g01383/impl.errNotValid", "loop.example/g01383/impl.errBeyond", "loop.example/g01383/impl.errTooMany"] [tok enc (.iface 165 (.pointer (some a0))), tok enc (.iface 165 (.pointer (some a1))), tok enc (.iface 165 (.pointer (some a2)))] [.cell 0 0, .cell 1 0, .cell 2 0] :=
  vars_read3n enc gl_errNotValid gt_errNotValid h.v0 trivial gl_errBeyond gt_errBeyond h.v1 trivial gl_errTooMany gt_errTooMany h.v2 trivial Tryd.underlying74 sp

/-- what the rows list of the package's 4 errors. -/
abbrev laidSents4 : List (String × DataW Unit) := [("loop.example/g01383/impl.errNotValid", Rows.laid_loop_example_g01383_impl_errNotValid), ("loop.example/g01383/impl.errBeyond", Rows.laid_loop_example_g01383_impl_errBeyond), ("loop.example/g01383/impl.errTooMany", Rows.laid_loop_example_g01383_impl_errTooMany), ("loop.example/g01383/impl.errNoJoint", Rows.laid_loop_example_g01383_impl_errNoJoint)]
/-- the variables hold their pointers. -/
structure Vr4 (W : World) (a0 a1 a2 a3 : Addr) : Prop where
  v0 : W.var? Tryd.prog "loop.example/g01383/impl.errNotValid" = some #[.iface 165 (.pointer (some a0))]
  v1 : W.var? Tryd.prog "loop.example/g01383/impl.errBeyond" = some #[.iface 165 (.pointer (some a1))]
  v2 : W.var? Tryd.prog "loop.example/g01383/impl.errTooMany" = some #[.iface 165 (.pointer (some a2))]
  v3 : W.var? Tryd.prog "loop.example/g01383/impl.errNoJoint" = some #[.iface 165 (.pointer (some a3))]
theorem Vr4.below {W W' : World} {a0 a1 a2 a3 : Addr} (h : Vr4 W a0 a1 a2 a3) (hb : Below W.heap.size W W') : Vr4 W' a0 a1 a2 a3 := ⟨var_below h.v0 hb, var_below h.v1 hb, var_below h.v2 hb, var_below h.v3 hb⟩
theorem sents4_of_laid {W : World} (h : laidMetH Tryd.prog laidSents4 W) : ∃ a0 a1 a2 a3, Sent4 W a0 a1 a2 a3 ∧ Vr4 W a0 a1 a2 a3 := by
  have h' : laidMet Tryd.prog laidSents4 W := h
  obtain ⟨a0, a1, a2, a3, hv0, hv1, hv2, hv3, hb0, hb1, hb2, hb3, n01, n02, n03, n12, n13, n23⟩ := laid_sentinels4 (P := Tryd.prog) (r := []) (ti := 74) (tp := 165) (te := 191) (ts := 9) h' gl_errNotValid gt_errNotValid gl_errBeyond gt_errBeyond gl_errTooMany gt_errTooMany gl_errNoJoint gt_errNoJoint Tryd.underlying74 rowErr Tryd.underlying165 Tryd.underlying191 rfl rfl Tryd.underlying9 (by kernel_rfl) (by kernel_rfl)
  exact ⟨a0, a1, a2, a3, ⟨⟨by simpa using World.var?_cell gl_errNotValid hv0 0, by simpa using World.var?_cell gl_errBeyond hv1 0, by simpa using World.var?_cell gl_errTooMany hv2 0, hb0, hb1, hb2, n01, n02, n12⟩, by simpa using World.var?_cell gl_errNoJoint hv3 0, hb3, n03, n13, n23⟩, hv0, hv1, hv2, hv3⟩
/-- a world that meets the condition. -/
noncomputable def laidWorldS4 (os : Os) : World :=
  let low := (World.holding Tryd.prog default ⟨#[], #[], []⟩).heap.size
  let w0 := World.holding Tryd.prog os ⟨#[.cells #[.string (textOf Rows.laid_loop_example_g01383_impl_errNotValid)] 191, .cells #[.string (textOf Rows.laid_loop_example_g01383_impl_errBeyond)] 191, .cells #[.string (textOf Rows.laid_loop_example_g01383_impl_errTooMany)] 191, .cells #[.string (textOf Rows.laid_loop_example_g01383_impl_errNoJoint)] 191], #[], []⟩
  let put (h : Array Obj) (g k : Nat) : Array Obj := h.modify g fun
    | .cells _ t frozen => .cells #[.iface 165 (.pointer (some ⟨low + k, 0, none⟩))] t frozen
    | o => o
  { w0 with heap := (put (put (put (put w0.heap 0 0) 1 1) 2 2) 3 3) }
theorem laidWorldS4_met (os : Os) (args : Array Value) : laidMetH Tryd.prog laidSents4 ((laidWorldS4 os).forCall (fun _ _ => 0) ⟨#[], args, []⟩).memory := by
  show laidMet Tryd.prog laidSents4 _
  exact laidMet_of_run' 8 (by kernel_rfl) (by kernel_rfl)
theorem vars4123 {H : Type} (enc : TypeId × Value → H) {W : World} {a0 a1 a2 a3 : Addr} (h : Vr4 W a0 a1 a2 a3) (sp : Nat → Bool) :
    DataW.TrodVars enc Tryd.prog W sp ["loop.example/g01383/impl.errNoJoint", "loop.example/g01383/impl.errNotValid", "loop.example/g01383/impl.errBeyond", "loop.example/g01383/impl.errTooMany"] [tok enc (.iface 165 (.pointer (some a3))), tok enc (.iface 165 (.pointer (some a0))), tok enc (.iface 165 (.pointer (some a1))), tok enc (.iface 165 (.pointer (some a2)))] [.cell 3 0, .cell 0 0, .cell 1 0, .cell 2 0] :=
  vars_read4n enc gl_errNoJoint gt_errNoJoint h.v3 trivial gl_errNotValid gt_errNotValid h.v0 trivial gl_errBeyond gt_errBeyond h.v1 trivial gl_errTooMany gt_errTooMany h.v2 trivial Tryd.underlying74 sp
end Go.Proofs.YtmkcdelfgaogaaaDoor

namespace Go.Proofs.YtmkcdelfgaogaaaDoor
open Go Go.ChangeShapes Go.WideShapes Go.ChangeAt Go.RowKit
set_option linter.unusedVariables false
theorem law_postV {H : Type} {enc : TypeId × Value → H} {P : Program} {f : Func} {s : ChangeSpec} {tb : TypeId} (hl : laidOutB P = true)
    (hT : ∀ t ∈ f.params.toList, P.readableRec t = true ∧ t < P.types.size) (hr : f.resultTypes = #[tb]) (htb : P.underlying tb = some .bool)
    {W W' : World} {args : Array Value} {ds gs : List (DataW H)} {before q0 : List MemPlace}
    (hW : DataW.Whole enc P f.params.toList s.vars false W args.toList ds gs before)
    (hq : ∀ q, DataW.TrodVars enc P W (fun _ => true) s.vars gs q → q = q0) (hv : ∀ sp, DataW.TrodVars enc P W' sp s.vars gs q0)
    (hfn : s.fn H (ds ++ gs) = { results := [.lit (.bool true)], args := ds, vars := gs }) (hb : Below W.heap.size W W') :
    s.post enc P f false true false false W args (.bool true) W' := by
  have hlt : ∀ x ∈ before, x.block < W.heap.size := fun x hx => by simpa using hW.lt x hx
  have hW0 := hW
  obtain ⟨p, q, hA, hV, rfl, _, _⟩ := hW0
  obtain rfl := hq q hV
  refine ⟨ds, gs, p ++ q, [], p, q, hW, ?_, ?_, ?_, hb.frame _, fun h => by cases h⟩
  · rw [hfn, hr]
    exact trodAll_mk1 (shut_bool htb true)
  · rw [hfn]
    exact trodAll_below hl hb hT hA fun x hx => hlt x (List.mem_append_left _ hx)
  · rw [hfn]
    exact hv _
end Go.Proofs.YtmkcdelfgaogaaaDoor

namespace Go.Proofs.YtmkcdelfgaogaaaDoor
open Go Go.ChangeShapes Go.WideShapes Go.ChangeAt Go.RowKit
set_option linter.unusedVariables false
set_option linter.unusedSimpArgs false
set_option maxRecDepth 100000
set_option maxHeartbeats 4000000

def PX (c : Nat → Int) (j : Nat) : Int := c (2 * j)
def PY (c : Nat → Int) (j : Nat) : Int := c (2 * j + 1)
def rowV (c : Nat → Int) (n : Nat) : List Value := (List.range (2 * n)).map fun j => Value.int .i8 (c j)
theorem rowV_length (c : Nat → Int) (n : Nat) : (rowV c n).length = 2 * n := by simp [rowV]
theorem rowV_get (c : Nat → Int) (n j : Nat) (h : j < 2 * n) : (rowV c n)[j]? = some (.int .i8 (c j)) := by simp [rowV, h]
theorem rowV_one (c : Nat → Int) (n : Nat) : ∀ u ∈ rowV c n, u.oneCell' = true := by
  intro u hu
  unfold rowV at hu
  obtain ⟨j, _, rfl⟩ := List.mem_map.1 hu
  rfl
/-- one list behind another one. -/
def ccP (n : Nat) (c d : Nat → Int) (j : Nat) : Int := if j < 2 * n then c j else d (j - 2 * n)
theorem rowV_app (c d : Nat → Int) (n m : Nat) : rowV c n ++ rowV d m = rowV (ccP n c d) (n + m) := by
  apply List.ext_getElem?
  intro j
  by_cases h1 : j < 2 * n
  · rw [List.getElem?_append_left (by rw [rowV_length]; exact h1), rowV_get _ _ _ h1, rowV_get _ _ _ (by omega)]
    unfold ccP
    rw [if_pos h1]
  · rw [List.getElem?_append_right (by rw [rowV_length]; omega), rowV_length]
    by_cases h2 : j < 2 * (n + m)
    · rw [rowV_get _ _ _ (by omega), rowV_get _ _ _ h2]
      unfold ccP
      rw [if_neg h1]
    · rw [List.getElem?_eq_none (by rw [rowV_length]; omega), List.getElem?_eq_none (by rw [rowV_length]; omega)]
theorem ccP_8 {c d : Nat → Int} {n : Nat} (hc : ∀ j, -128 ≤ c j ∧ c j ≤ 127) (hd : ∀ j, -128 ≤ d j ∧ d j ≤ 127) (j : Nat) : -128 ≤ ccP n c d j ∧ ccP n c d j ≤ 127 := by
  unfold ccP
  split
  · exact hc _
  · exact hd _
theorem all_cc {X Y : Int} {n m : Nat} {c d : Nat → Int} : AllIn X Y (n + m) (PX (ccP n c d)) (PY (ccP n c d)) ↔ AllIn X Y n (PX c) (PY c) ∧ AllIn X Y m (PX d) (PY d) := by
  unfold AllIn PX PY ccP
  constructor
  · intro h
    refine ⟨fun j hj => ?_, fun j hj => ?_⟩
    · have := h j (by omega)
      rwa [if_pos (by omega), if_pos (by omega)] at this
    · have := h (n + j) (by omega)
      rwa [if_neg (by omega), if_neg (by omega), show 2 * (n + j) - 2 * n = 2 * j by omega, show 2 * (n + j) + 1 - 2 * n = 2 * j + 1 by omega] at this
  · rintro ⟨h1, h2⟩ j hj
    by_cases hn : j < n
    · rw [if_pos (by omega), if_pos (by omega)]
      exact h1 j hn
    · rw [if_neg (by omega), if_neg (by omega), show 2 * j - 2 * n = 2 * (j - n) by omega, show 2 * j + 1 - 2 * n = 2 * (j - n) + 1 by omega]
      exact h2 (j - n) (by omega)
theorem Ac.rdP {w : World} {g n : Nat} {c : Nat → Int} (h : Ac w g n c) : RdP w (some ⟨g, 0, none⟩) n (PX c) (PY c) := fun _ =>
  ⟨g, 0, rfl, h.1, fun j hj => by
    have h0 := h.2 (2 * j) (by omega)
    have h1 := h.2 (2 * j + 1) (by omega)
    rw [show 0 + j * 2 = 0 + 2 * j by omega]
    exact ⟨h0.1, h1.1⟩⟩
/-- a list of points of the call's own. -/
def OwnP (w : World) (base : Nat) (v : Value) (n : Nat) (c : Nat → Int) : Prop := w.ownsRow base 35 2 v n (rowV c n)
theorem OwnP.shape {w : World} {base : Nat} {v : Value} {n : Nat} {c : Nat → Int} (h : OwnP w base v n c) : ∃ A cap, v = .slice A n cap ∧ n ≤ cap := by
  rcases h.2 with ⟨rfl, rfl⟩ | ⟨g, cap, cur, rfl, _, _, hc, _⟩
  · exact ⟨_, _, rfl, Nat.le_refl _⟩
  · exact ⟨_, _, rfl, hc⟩
theorem OwnP.rdP {w : World} {base n cap : Nat} {A : Option Addr} {c : Nat → Int} (h : OwnP w base (.slice A n cap) n c) : RdP w A n (PX c) (PY c) := fun h0 => by
  obtain ⟨g, cap', e, hb, hg⟩ := World.ownsRow.form h h0
  simp only [Value.slice.injEq] at e
  obtain ⟨rfl, _, rfl⟩ := e
  refine ⟨g, 0, rfl, hg, fun j hj => ?_⟩
  have h1 := World.ownsRow.cellAt h (2 * j) (by omega)
  have h2 := World.ownsRow.cellAt h (2 * j + 1) (by omega)
  rw [rowV_get _ _ _ (by omega)] at h1 h2
  rw [show 0 + j * 2 = 2 * j by omega]
  exact ⟨h1, h2⟩

theorem w_drew {W : World} {a : Addr} {v : Value} (h : W.cell? a = some v) : W.drew.cell? a = some v := h
/-- points that follow each other are ends of a joint. -/
def Along (G : Nat → Int) (n : Nat) (px py : Nat → Int) : Prop := ∀ i, i + 1 < n → betw G (px i) (py i) (px (i + 1)) (py (i + 1)) = true
theorem Along.step {G : Nat → Int} {i : Nat} {px py : Nat → Int} (h : ∀ j, j + 1 < i + 1 → betw G (px j) (py j) (px (j + 1)) (py (j + 1)) = true) (e : betw G (px i) (py i) (px (i + 1)) (py (i + 1)) = true) : ∀ j, j + 1 < i + 1 + 1 → betw G (px j) (py j) (px (j + 1)) (py (j + 1)) = true := fun j hj => by
  by_cases hji : j = i
  · subst hji; exact e
  · exact h j (by omega)
theorem alongS_any (b : Nat) (A : Option Addr) (n cap : Nat) (px py : Nat → Int) (G : Nat → Int) (W H : Int) (r : Bool) (w : World) (hn : n ≤ 10000000) (hcap : n ≤ cap) (hW : W ≤ 12) (hH : H ≤ 12) (hP : RdP w A n px py) (hin : AllIn W H n px py) (hG : w.rowIs b 64 144 (fun p => .int .i64 (G p))) (hr : r = true ↔ Along G n px py) :
    Calls Tryd.prog 42 #[.pointer (some ⟨b, 0, none⟩), .slice A n cap] w (SjPost r w) := by
  have HR := Lib.hid hr
  have HIN := Lib.hid hin
  have B := Below.refl w.heap.size w
  clear hr hin
  go_enter Tryd.func42, Tryd.ntmps42
  go_wp2_with fail
  go_loopw [5] (fun t5 wr => ∃ i : Nat, (i = 0 ∨ i + 1 ≤ n) ∧ t5 = .int .i64 ((i + 1 : Nat) : Int) ∧ Below w.heap.size w wr ∧ (∀ j, j + 1 < i + 1 → betw G (px j) (py j) (px (j + 1)) (py (j + 1)) = true)) (fun t5 wr => n + 1 - (intOf t5).toNat)
  case atStart => exact ⟨0, .inl rfl, by simp, B, fun j hj => by omega⟩
  case round =>
    clear B
    obtain ⟨i, hi, rfl, B, hall⟩ := hrel
    obtain ⟨wo, rfl⟩ : ∃ wo : World, wo = wr := ⟨_, rfl⟩
    have HA := Lib.hid hall
    clear hall
    by_cases hlt : i + 1 < n
    · have hli : ((i + 1 : Nat) : Int) < (n : Int) := by omega
      have hli2 : ((i : Nat) : Int) < (n : Int) := by omega
      obtain ⟨b', off, rfl, hbl, hcell⟩ := hP.below B (by omega)
      obtain ⟨cx, cy⟩ := hcell i (by omega)
      obtain ⟨dx, dy⟩ := hcell (i + 1) hlt
      have hI := HIN.out i (by omega)
      have hJ := HIN.out (i + 1) hlt
      obtain ⟨x, hx⟩ : ∃ x, px i = x := ⟨_, rfl⟩
      obtain ⟨y, hy⟩ : ∃ y, py i = y := ⟨_, rfl⟩
      obtain ⟨x', hx'⟩ : ∃ x, px (i + 1) = x := ⟨_, rfl⟩
      obtain ⟨y', hy'⟩ : ∃ y, py (i + 1) = y := ⟨_, rfl⟩
      rw [hx] at cx hI
      rw [hy] at cy hI
      rw [hx'] at dx hJ
      rw [hy'] at dy hJ
      obtain ⟨i1, i2, i3, i4⟩ := hI
      obtain ⟨s, hs⟩ : ∃ s, s = betw G x y x' y' := ⟨_, rfl⟩
      have HH := fun W' hg => betwS_any b x y x' y' G W' (by omega) (by omega) hg
      rw [← hs] at HH
      have HH' := Lib.hid HH
      have HSs := Lib.hid (show betw G (px i) (py i) (px (i + 1)) (py (i + 1)) = s by rw [hx, hy, hx', hy', hs])
      obtain ⟨k, hk⟩ : ∃ k, k = i + 1 := ⟨_, rfl⟩
      rw [← hk] at dx dy hli ⊢
      have hwr : IntKind.i64.wrap ((k : Int) - 1) = (i : Int) := by rw [hk, show (((i + 1 : Nat) : Int) - 1) = (i : Int) by omega]; exact IntWalk.i64_in _ (by omega)
      have hws : IntKind.i64.wrap ((k : Int) + 1) = (k : Int) + 1 := IntWalk.i64_in _ (by omega)
      have hcap' : (k : Int) < (cap : Int) := by omega
      have HK := Lib.hid hk
      have hhi : ¬ ((i : Int) < 0) := by omega
      have RG := hG.of_block (B.block _ hG.lt)
      clear hs hx hy hx' hy' hcell hJ HH i1 i2 i3 i4 hlt hi hk
      go_wp2_with fail
      refine wp_region_held_drew (S := fun w' => w'.cell? ⟨b', off + i * 2, none⟩ = some (.int .i8 x) ∧ w'.cell? ⟨b', off + i * 2 + 1, none⟩ = some (.int .i8 y) ∧ w'.cell? ⟨b', off + k * 2, none⟩ = some (.int .i8 x') ∧ w'.cell? ⟨b', off + k * 2 + 1, none⟩ = some (.int .i8 y')) (by kernel_rfl) ⟨cx, cy, dx, dy⟩ (fun hHeld => ?_)
      refine wpAnyH_take (i := 0) (oi := _) (v := ?_) rfl (by kernel_rfl) (by kernel_rfl) (by kernel_rfl) (fun _ _ _ h => h) (Or.inl ⟨by kernel_rfl, ?_⟩) (by assumption) ?_
      rotate_left
      · intro w hSw; (try dsimp only at hSw); go_simp; first | done | with_reducible rfl
      try simp only [List.getElem_toArray, List.getElem_cons_zero, List.getElem_cons_succ, Act.put, List.setIfInBounds_toArray, List.set_cons_zero, List.set_cons_succ]
      refine wpAnyH_take (i := 1) (oi := _) (v := ?_) rfl (by kernel_rfl) (by kernel_rfl) (by kernel_rfl) (fun _ _ _ h => h) (Or.inl ⟨by kernel_rfl, ?_⟩) (by assumption) ?_
      rotate_left
      · intro w hSw; (try dsimp only at hSw); go_simp; first | done | with_reducible rfl
      try simp only [List.getElem_toArray, List.getElem_cons_zero, List.getElem_cons_succ, Act.put, List.setIfInBounds_toArray, List.set_cons_zero, List.set_cons_succ]
      refine wpAnyH_take (i := 2) (oi := _) (v := ?_) rfl (by kernel_rfl) (by kernel_rfl) (by kernel_rfl) (fun _ _ _ h => h) (Or.inl ⟨by kernel_rfl, ?_⟩) (by assumption) ?_
      rotate_left
      · intro w hSw; (try dsimp only at hSw); go_simp; first | done | with_reducible rfl
      try simp only [List.getElem_toArray, List.getElem_cons_zero, List.getElem_cons_succ, Act.put, List.setIfInBounds_toArray, List.set_cons_zero, List.set_cons_succ]
      refine wpAnyH_take (i := 3) (oi := _) (v := ?_) rfl (by kernel_rfl) (by kernel_rfl) (by kernel_rfl) (fun _ _ _ h => h) (Or.inl ⟨by kernel_rfl, ?_⟩) (by assumption) ?_
      rotate_left
      · intro w hSw; (try dsimp only at hSw); go_simp; first | done | with_reducible rfl
      try simp only [List.getElem_toArray, List.getElem_cons_zero, List.getElem_cons_succ, Act.put, List.setIfInBounds_toArray, List.set_cons_zero, List.set_cons_succ]
      refine wpAnyH_take (i := 4) (oi := _) (v := ?_) rfl (by kernel_rfl) (by kernel_rfl) (by kernel_rfl) (fun _ _ _ h => h) (Or.inl ⟨by kernel_rfl, ?_⟩) (by assumption) ?_
      rotate_left
      · intro w hSw; (try dsimp only at hSw); go_simp; first | done | with_reducible rfl
      try simp only [List.getElem_toArray, List.getElem_cons_zero, List.getElem_cons_succ, Act.put, List.setIfInBounds_toArray, List.set_cons_zero, List.set_cons_succ]
      refine wpAnyH_take (i := 5) (oi := _) (v := ?_) rfl (by kernel_rfl) (by kernel_rfl) (by kernel_rfl) (fun _ _ _ h => h) (Or.inl ⟨by kernel_rfl, ?_⟩) (by assumption) ?_
      rotate_left
      · intro w hSw; (try dsimp only at hSw); go_simp; first | done | with_reducible rfl
      try simp only [List.getElem_toArray, List.getElem_cons_zero, List.getElem_cons_succ, Act.put, List.setIfInBounds_toArray, List.set_cons_zero, List.set_cons_succ]
      refine wpAnyH_take (i := 6) (oi := _) (v := ?_) rfl (by kernel_rfl) (by kernel_rfl) (by kernel_rfl) (fun _ _ _ h => h) (Or.inl ⟨by kernel_rfl, ?_⟩) (by assumption) ?_
      rotate_left
      · intro w hSw; (try dsimp only at hSw); go_simp; first | done | with_reducible rfl
      try simp only [List.getElem_toArray, List.getElem_cons_zero, List.getElem_cons_succ, Act.put, List.setIfInBounds_toArray, List.set_cons_zero, List.set_cons_succ]
      refine wpAnyH_take (i := 7) (oi := _) (v := ?_) rfl (by kernel_rfl) (by kernel_rfl) (by kernel_rfl) (fun _ _ _ h => h) (Or.inl ⟨by kernel_rfl, ?_⟩) (by assumption) ?_
      rotate_left
      · intro w hSw; (try dsimp only at hSw); go_simp; first | done | with_reducible rfl
      try simp only [List.getElem_toArray, List.getElem_cons_zero, List.getElem_cons_succ, Act.put, List.setIfInBounds_toArray, List.set_cons_zero, List.set_cons_succ]
      refine wpAnyH_take (i := 8) (oi := _) (v := ?_) rfl (by kernel_rfl) (by kernel_rfl) (by kernel_rfl) (fun _ _ _ h => h) (Or.inl ⟨by kernel_rfl, ?_⟩) (by assumption) ?_
      rotate_left
      · intro w hSw; (try dsimp only at hSw); go_simp; first | done | with_reducible rfl
      try simp only [List.getElem_toArray, List.getElem_cons_zero, List.getElem_cons_succ, Act.put, List.setIfInBounds_toArray, List.set_cons_zero, List.set_cons_succ]
      refine wpAnyH_take (i := 9) (oi := _) (v := ?_) rfl (by kernel_rfl) (by kernel_rfl) (by kernel_rfl) (fun _ _ _ h => h) (Or.inl ⟨by kernel_rfl, ?_⟩) (by assumption) ?_
      rotate_left
      · intro w hSw; (try dsimp only at hSw); go_simp; first | done | with_reducible rfl
      try simp only [List.getElem_toArray, List.getElem_cons_zero, List.getElem_cons_succ, Act.put, List.setIfInBounds_toArray, List.set_cons_zero, List.set_cons_succ]
      refine wpAnyH_ready (rs := [10]) (by kernel_rfl) (by simp) ?_
      refine AllReadyH.cons (o := _) rfl (fun K hK => ?_) AllReadyH.nil
      go_simp
      refine (HH'.out wo.drew (RG.of_block rfl)).mono ?_
      rintro e w3 ⟨rfl, hb⟩
      have cx3 := cell_below (w_drew cx) hb
      have cy3 := cell_below (w_drew cy) hb
      have dx3 := cell_below (w_drew dx) hb
      have dy3 := cell_below (w_drew dy) hb
      replace B := nxt B.drew hb
      clear hb cx cy dx dy
      refine hK.out _ _ ⟨cx3, cy3, dx3, dy3⟩ (fun hHeld => ?_)
      clear hK K
      try simp only [List.getElem_toArray, List.getElem_cons_zero, List.getElem_cons_succ, Act.put, List.setIfInBounds_toArray, List.set_cons_zero, List.set_cons_succ]
      refine wpAnyH_take (i := 11) (oi := _) (v := ?_) rfl (by kernel_rfl) (by kernel_rfl) (by kernel_rfl) (fun _ _ _ h => h) (Or.inl ⟨by kernel_rfl, ?_⟩) (by assumption) ?_
      rotate_left
      · intro w hSw; (try dsimp only at hSw); go_simp; first | done | with_reducible rfl
      try simp only [List.getElem_toArray, List.getElem_cons_zero, List.getElem_cons_succ, Act.put, List.setIfInBounds_toArray, List.set_cons_zero, List.set_cons_succ]
      refine wpAnyH_done (by kernel_rfl) ?_ _
      cases s with
      | true =>
        go_wp2
        refine ⟨⟨i + 1, .inr (by have := HK.out; omega), by rw [HK.out]; first | go_num | simp, B, Along.step HA.out HSs.out⟩, by simp [intOf]; omega⟩
      | false =>
        go_wp2
        obtain rfl : r = false := by
          cases r; rfl
          have h := HR.out.1 rfl i (by have := HK.out; omega)
          rw [HSs.out] at h; cases h
        go_ret
        exact ⟨rfl, B⟩
    · have hn2 : n ≤ i + 1 := by omega
      have hli : ¬ (((i + 1 : Nat) : Int) < (n : Int)) := by omega
      go_wp2
      obtain rfl : r = true := HR.out.2 fun j hj => HA.out j (by omega)
      go_ret
      exact ⟨rfl, B⟩
theorem isCrack_any (m : Nat) (L : List En) (A : Option Addr) (n cap : Nat) (px py : Nat → Int) (G : Nat → Int) (r : Bool) (w : World) (hn : n ≤ 10000000) (hcap : n ≤ cap) (hP : RdP w A n px py) (hpx : ∀ j, -128 ≤ px j ∧ px j ≤ 127) (hpy : ∀ j, -128 ≤ py j ∧ py j ≤ 127) (hM : EMap w m L) (hL : ∀ ax ay bx by_, hasK L (edE ax ay bx by_) = betw G ax ay bx by_) (hr : r = true ↔ Along G n px py) :
    Calls Tryd.prog 63 #[.map (some m), .slice A n cap] w (SjPost r w) := by
  have HR := Lib.hid hr
  have HPX := Lib.hid hpx
  have HPY := Lib.hid hpy
  have B := Below.refl w.heap.size w
  clear hr hpx hpy
  go_enter Tryd.func63, Tryd.ntmps63
  go_wp2_with fail
  go_loopw [5] (fun t5 wr => ∃ i : Nat, (i = 0 ∨ i + 1 ≤ n) ∧ t5 = .int .i64 ((i + 1 : Nat) : Int) ∧ Below w.heap.size w wr ∧ (∀ j, j + 1 < i + 1 → betw G (px j) (py j) (px (j + 1)) (py (j + 1)) = true)) (fun t5 wr => n + 1 - (intOf t5).toNat)
  case atStart => exact ⟨0, .inl rfl, by simp, B, fun j hj => by omega⟩
  case round =>
    clear B
    obtain ⟨i, hi, rfl, B, hall⟩ := hrel
    obtain ⟨wo, rfl⟩ : ∃ wo : World, wo = wr := ⟨_, rfl⟩
    have HA := Lib.hid hall
    clear hall
    by_cases hlt : i + 1 < n
    · have hli : ((i + 1 : Nat) : Int) < (n : Int) := by omega
      have hli2 : ((i : Nat) : Int) < (n : Int) := by omega
      obtain ⟨b', off, rfl, hbl, hcell⟩ := hP.below B (by omega)
      obtain ⟨cx, cy⟩ := hcell i (by omega)
      obtain ⟨dx, dy⟩ := hcell (i + 1) hlt
      have bx := HPX.out i
      have by' := HPY.out i
      have bx' := HPX.out (i + 1)
      have by2 := HPY.out (i + 1)
      obtain ⟨x, hx⟩ : ∃ x, px i = x := ⟨_, rfl⟩
      obtain ⟨y, hy⟩ : ∃ y, py i = y := ⟨_, rfl⟩
      obtain ⟨x', hx'⟩ : ∃ x, px (i + 1) = x := ⟨_, rfl⟩
      obtain ⟨y', hy'⟩ : ∃ y, py (i + 1) = y := ⟨_, rfl⟩
      rw [hx] at cx bx
      rw [hy] at cy by'
      rw [hx'] at dx bx'
      rw [hy'] at dy by2
      obtain ⟨s, hs⟩ : ∃ s, s = betw G x y x' y' := ⟨_, rfl⟩
      have HH := fun W' hg => jhas_any m L x y x' y' W' bx by' bx' by2 hg
      rw [hL, ← hs] at HH
      have HH' := Lib.hid HH
      have HSs := Lib.hid (show betw G (px i) (py i) (px (i + 1)) (py (i + 1)) = s by rw [hx, hy, hx', hy', hs])
      obtain ⟨k, hk⟩ : ∃ k, k = i + 1 := ⟨_, rfl⟩
      rw [← hk] at dx dy hli ⊢
      have hwr : IntKind.i64.wrap ((k : Int) - 1) = (i : Int) := by rw [hk, show (((i + 1 : Nat) : Int) - 1) = (i : Int) by omega]; exact IntWalk.i64_in _ (by omega)
      have hws : IntKind.i64.wrap ((k : Int) + 1) = (k : Int) + 1 := IntWalk.i64_in _ (by omega)
      have hcap' : (k : Int) < (cap : Int) := by omega
      have HK := Lib.hid hk
      have hhi : ¬ ((i : Int) < 0) := by omega
      have RG := hM.of_block (B.block _ hM.lt)
      clear hs hx hy hx' hy' hcell HH bx by' bx' by2 hlt hi hk
      go_wp2_with fail
      refine wp_region_held_drew (S := fun w' => w'.cell? ⟨b', off + i * 2, none⟩ = some (.int .i8 x) ∧ w'.cell? ⟨b', off + i * 2 + 1, none⟩ = some (.int .i8 y) ∧ w'.cell? ⟨b', off + k * 2, none⟩ = some (.int .i8 x') ∧ w'.cell? ⟨b', off + k * 2 + 1, none⟩ = some (.int .i8 y')) (by kernel_rfl) ⟨cx, cy, dx, dy⟩ (fun hHeld => ?_)
      refine wpAnyH_take (i := 0) (oi := _) (v := ?_) rfl (by kernel_rfl) (by kernel_rfl) (by kernel_rfl) (fun _ _ _ h => h) (Or.inl ⟨by kernel_rfl, ?_⟩) (by assumption) ?_
      rotate_left
      · intro w hSw; (try dsimp only at hSw); go_simp; first | done | with_reducible rfl
      try simp only [List.getElem_toArray, List.getElem_cons_zero, List.getElem_cons_succ, Act.put, List.setIfInBounds_toArray, List.set_cons_zero, List.set_cons_succ]
      refine wpAnyH_take (i := 1) (oi := _) (v := ?_) rfl (by kernel_rfl) (by kernel_rfl) (by kernel_rfl) (fun _ _ _ h => h) (Or.inl ⟨by kernel_rfl, ?_⟩) (by assumption) ?_
      rotate_left
      · intro w hSw; (try dsimp only at hSw); go_simp; first | done | with_reducible rfl
      try simp only [List.getElem_toArray, List.getElem_cons_zero, List.getElem_cons_succ, Act.put, List.setIfInBounds_toArray, List.set_cons_zero, List.set_cons_succ]
      refine wpAnyH_take (i := 2) (oi := _) (v := ?_) rfl (by kernel_rfl) (by kernel_rfl) (by kernel_rfl) (fun _ _ _ h => h) (Or.inl ⟨by kernel_rfl, ?_⟩) (by assumption) ?_
      rotate_left
      · intro w hSw; (try dsimp only at hSw); go_simp; first | done | with_reducible rfl
      try simp only [List.getElem_toArray, List.getElem_cons_zero, List.getElem_cons_succ, Act.put, List.setIfInBounds_toArray, List.set_cons_zero, List.set_cons_succ]
      refine wpAnyH_take (i := 3) (oi := _) (v := ?_) rfl (by kernel_rfl) (by kernel_rfl) (by kernel_rfl) (fun _ _ _ h => h) (Or.inl ⟨by kernel_rfl, ?_⟩) (by assumption) ?_
      rotate_left
      · intro w hSw; (try dsimp only at hSw); go_simp; first | done | with_reducible rfl
      try simp only [List.getElem_toArray, List.getElem_cons_zero, List.getElem_cons_succ, Act.put, List.setIfInBounds_toArray, List.set_cons_zero, List.set_cons_succ]
      refine wpAnyH_take (i := 4) (oi := _) (v := ?_) rfl (by kernel_rfl) (by kernel_rfl) (by kernel_rfl) (fun _ _ _ h => h) (Or.inl ⟨by kernel_rfl, ?_⟩) (by assumption) ?_
      rotate_left
      · intro w hSw; (try dsimp only at hSw); go_simp; first | done | with_reducible rfl
      try simp only [List.getElem_toArray, List.getElem_cons_zero, List.getElem_cons_succ, Act.put, List.setIfInBounds_toArray, List.set_cons_zero, List.set_cons_succ]
      refine wpAnyH_take (i := 5) (oi := _) (v := ?_) rfl (by kernel_rfl) (by kernel_rfl) (by kernel_rfl) (fun _ _ _ h => h) (Or.inl ⟨by kernel_rfl, ?_⟩) (by assumption) ?_
      rotate_left
      · intro w hSw; (try dsimp only at hSw); go_simp; first | done | with_reducible rfl
      try simp only [List.getElem_toArray, List.getElem_cons_zero, List.getElem_cons_succ, Act.put, List.setIfInBounds_toArray, List.set_cons_zero, List.set_cons_succ]
      refine wpAnyH_take (i := 6) (oi := _) (v := ?_) rfl (by kernel_rfl) (by kernel_rfl) (by kernel_rfl) (fun _ _ _ h => h) (Or.inl ⟨by kernel_rfl, ?_⟩) (by assumption) ?_
      rotate_left
      · intro w hSw; (try dsimp only at hSw); go_simp; first | done | with_reducible rfl
      try simp only [List.getElem_toArray, List.getElem_cons_zero, List.getElem_cons_succ, Act.put, List.setIfInBounds_toArray, List.set_cons_zero, List.set_cons_succ]
      refine wpAnyH_take (i := 7) (oi := _) (v := ?_) rfl (by kernel_rfl) (by kernel_rfl) (by kernel_rfl) (fun _ _ _ h => h) (Or.inl ⟨by kernel_rfl, ?_⟩) (by assumption) ?_
      rotate_left
      · intro w hSw; (try dsimp only at hSw); go_simp; first | done | with_reducible rfl
      try simp only [List.getElem_toArray, List.getElem_cons_zero, List.getElem_cons_succ, Act.put, List.setIfInBounds_toArray, List.set_cons_zero, List.set_cons_succ]
      refine wpAnyH_take (i := 8) (oi := _) (v := ?_) rfl (by kernel_rfl) (by kernel_rfl) (by kernel_rfl) (fun _ _ _ h => h) (Or.inl ⟨by kernel_rfl, ?_⟩) (by assumption) ?_
      rotate_left
      · intro w hSw; (try dsimp only at hSw); go_simp; first | done | with_reducible rfl
      try simp only [List.getElem_toArray, List.getElem_cons_zero, List.getElem_cons_succ, Act.put, List.setIfInBounds_toArray, List.set_cons_zero, List.set_cons_succ]
      refine wpAnyH_take (i := 9) (oi := _) (v := ?_) rfl (by kernel_rfl) (by kernel_rfl) (by kernel_rfl) (fun _ _ _ h => h) (Or.inl ⟨by kernel_rfl, ?_⟩) (by assumption) ?_
      rotate_left
      · intro w hSw; (try dsimp only at hSw); go_simp; first | done | with_reducible rfl
      try simp only [List.getElem_toArray, List.getElem_cons_zero, List.getElem_cons_succ, Act.put, List.setIfInBounds_toArray, List.set_cons_zero, List.set_cons_succ]
      refine wpAnyH_ready (rs := [10]) (by kernel_rfl) (by simp) ?_
      refine AllReadyH.cons (o := _) rfl (fun K hK => ?_) AllReadyH.nil
      go_simp
      refine (HH'.out wo.drew (RG.of_block rfl)).mono ?_
      rintro e w3 ⟨rfl, hb⟩
      have cx3 := cell_below (w_drew cx) hb
      have cy3 := cell_below (w_drew cy) hb
      have dx3 := cell_below (w_drew dx) hb
      have dy3 := cell_below (w_drew dy) hb
      replace B := nxt B.drew hb
      clear hb cx cy dx dy
      refine hK.out _ _ ⟨cx3, cy3, dx3, dy3⟩ (fun hHeld => ?_)
      clear hK K
      try simp only [List.getElem_toArray, List.getElem_cons_zero, List.getElem_cons_succ, Act.put, List.setIfInBounds_toArray, List.set_cons_zero, List.set_cons_succ]
      refine wpAnyH_take (i := 11) (oi := _) (v := ?_) rfl (by kernel_rfl) (by kernel_rfl) (by kernel_rfl) (fun _ _ _ h => h) (Or.inl ⟨by kernel_rfl, ?_⟩) (by assumption) ?_
      rotate_left
      · intro w hSw; (try dsimp only at hSw); go_simp; first | done | with_reducible rfl
      try simp only [List.getElem_toArray, List.getElem_cons_zero, List.getElem_cons_succ, Act.put, List.setIfInBounds_toArray, List.set_cons_zero, List.set_cons_succ]
      refine wpAnyH_done (by kernel_rfl) ?_ _
      cases s with
      | true =>
        go_wp2
        refine ⟨⟨i + 1, .inr (by have := HK.out; omega), by rw [HK.out]; first | go_num | simp, B, Along.step HA.out HSs.out⟩, by simp [intOf]; omega⟩
      | false =>
        go_wp2
        obtain rfl : r = false := by
          cases r; rfl
          have h := HR.out.1 rfl i (by have := HK.out; omega)
          rw [HSs.out] at h; cases h
        go_ret
        exact ⟨rfl, B⟩
    · have hn2 : n ≤ i + 1 := by omega
      have hli : ¬ (((i + 1 : Nat) : Int) < (n : Int)) := by omega
      go_wp2
      obtain rfl : r = true := HR.out.2 fun j hj => HA.out j (by omega)
      go_ret
      exact ⟨rfl, B⟩
/-- is a point in a list? -/
def HasPt (n : Nat) (px py : Nat → Int) (x y : Int) : Prop := ∃ j, j < n ∧ px j = x ∧ py j = y
theorem l06Has_any (A : Option Addr) (n cap : Nat) (px py : Nat → Int) (x y : Int) (r : Bool) (w : World) (hn : n ≤ 10000000) (hcap : n ≤ cap) (hP : RdP w A n px py) (hr : r = true ↔ HasPt n px py x y) :
    Calls Tryd.prog 43 #[.slice A n cap, .agg #[.int .i8 x, .int .i8 y]] w (SjPost r w) := by
  have HR := Lib.hid hr
  have X3 := C2.new w x y 35
  have B := al (Below.refl w.heap.size w) (.cells #[.int .i8 x, .int .i8 y] 35)
  obtain ⟨W0, hW0⟩ : ∃ W0 : World, W0 = w.alloc (.cells #[.int .i8 x, .int .i8 y] 35) := ⟨_, rfl⟩
  rw [← hW0] at X3 B
  clear hr
  go_enter Tryd.func43, Tryd.ntmps43
  go_wp2_with fail
  rw [← hW0]
  clear hW0
  go_loopw [5] (fun t5 wr => ∃ i : Nat, i ≤ n ∧ t5 = .int .i64 (i : Int) ∧ Below w.heap.size w wr ∧ C2 wr w.heap.size x y ∧ (∀ j, j < i → ¬ (px j = x ∧ py j = y))) (fun t5 wr => n - (intOf t5).toNat)
  case atStart => exact ⟨0, by omega, by simp, B, X3, fun j hj => by omega⟩
  case round =>
    clear B X3
    obtain ⟨i, hi, rfl, B, X3, hall⟩ := hrel
    obtain ⟨wo, rfl⟩ : ∃ wo : World, wo = wr := ⟨_, rfl⟩
    have HA := Lib.hid hall
    clear hall
    by_cases hlt : i < n
    · have hli : (i : Int) < (n : Int) := by omega
      have hcap' : (i : Int) < (cap : Int) := by omega
      obtain ⟨b', off, rfl, hbl, hcell⟩ := hP.below B (by omega)
      obtain ⟨cx, cy⟩ := hcell i hlt
      obtain ⟨l3, p3, q3⟩ := id X3
      obtain ⟨a, ha⟩ : ∃ a, px i = a := ⟨_, rfl⟩
      obtain ⟨b, hb⟩ : ∃ b, py i = b := ⟨_, rfl⟩
      rw [ha] at cx
      rw [hb] at cy
      by_cases he : a = x ∧ b = y
      · have HE := Lib.hid he
        have d1 : (a == x) = true := by simpa using he.1
        have d2 : (b == y) = true := by simpa using he.2
        have HAB := Lib.hid (And.intro ha hb)
        clear ha hb he hcell
        go_wp2_with fail
        go_quiet (fail)
        obtain rfl : r = true := HR.out.2 ⟨i, hlt, HAB.out.1.trans HE.out.1, HAB.out.2.trans HE.out.2⟩
        go_wp2
        go_ret
        exact ⟨rfl, below_drewN' B _⟩
      · have hcase : (a = x ∧ b ≠ y) ∨ a ≠ x := by
          by_cases h : a = x
          · exact .inl ⟨h, fun h2 => he ⟨h, h2⟩⟩
          · exact .inr h
        have HE := Lib.hid he
        have HAB := Lib.hid (And.intro ha hb)
        clear ha hb he hcell
        have fin : ∀ j, j < i + 1 → ¬ (px j = x ∧ py j = y) := fun j hj => by
          by_cases e : j = i
          · subst e
            rw [HAB.out.1, HAB.out.2]
            exact HE.out
          · exact HA.out j (by omega)
        have FIN := Lib.hid fin
        clear fin
        rcases hcase with ⟨h1, h2⟩ | h1
        · have d1 : (a == x) = true := by simpa using h1
          have d2 : (b == y) = false := by simpa using h2
          clear h1 h2
          go_wp2_with fail
          go_quiet (fail)
          go_wp2
          exact ⟨⟨i + 1, by omega, by first | go_num | simp, below_drewN' B _, X3, FIN.out⟩, by simp [intOf]; omega⟩
        · have d1 : (a == x) = false := by simpa using h1
          clear h1
          go_wp2_with fail
          go_quiet (fail)
          go_wp2
          exact ⟨⟨i + 1, by omega, by first | go_num | simp, below_drewN' B _, X3, FIN.out⟩, by simp [intOf]; omega⟩
    · obtain rfl : i = n := by omega
      obtain rfl : r = false := by
        cases r; rfl
        obtain ⟨j, hj, h⟩ := HR.out.1 rfl
        exact absurd h (HA.out j hj)
      go_wp2
      go_ret
      exact ⟨rfl, B⟩
end Go.Proofs.YtmkcdelfgaogaaaDoor

namespace Go.Proofs.YtmkcdelfgaogaaaDoor
open Go Go.ChangeShapes Go.WideShapes Go.ChangeAt Go.RowKit
set_option linter.unusedVariables false
set_option linter.unusedSimpArgs false
set_option maxRecDepth 100000
set_option maxHeartbeats 2000000

theorem newsP {w : World} {n b : Nat} {c : Nat → Int} (h : Ac w b n c) : ∀ j u, (rowV c n)[j]? = some u → w.cell? ((⟨b, 0, none⟩ : Addr).add j) = some u := by
  intro j u hu
  by_cases hj : j < 2 * n
  · rw [rowV_get _ _ _ hj] at hu
    obtain rfl := Option.some.inj hu
    rw [Go.WideShapes.add_plain]
    exact (h.2 j hj).1
  · rw [List.getElem?_eq_none (by rw [rowV_length]; omega)] at hu
    cases hu
theorem growP (k : Nat) (c : Nat → Int) (w : World) (h0 : 0 < k) (hk : k ≤ 10000000) :
    Calls Tryd.prog 84 #[.slice none 0 0, .int .i64 (k : Int)] w fun e w' => Below w.heap.size w w' ∧ ∃ v, e = .returned v ∧ OwnP w' w.heap.size v 0 c := by
  obtain ⟨i0, hi, hz0, hz1, hz2⟩ := info_parts infoCell
  have k1 : decide ((k : Int) < 0) = false := by simp
  have k2 : decide (0 < (k : Int)) = true := by simp; omega
  have k3 : IntKind.i64.wrap (k : Int) = (k : Int) := IntWalk.i64_in _ (by omega)
  have hrun := Lib.run_append_nil_zeros (P := Tryd.prog) w 53 3 53 35 i0 (.agg #[.int .i8 0, .int .i8 0]) .i64 .i64 Tryd.underlying53 Tryd.underlying3 hi hz0 k h0 (by rw [hz1]; decide) (by omega) (by rw [hz2]; omega)
  have HRUN := Lib.hid hrun
  have H0 := Lib.hid h0
  clear hrun
  go_enter Tryd.func84, Tryd.ntmps84
  go_wp2_with (at_builtin; refine Lib.wpList_append_run _ rfl _ _ _ _ rfl _ _ rfl rfl _ _ HRUN.out ?_)
  go_ret
  refine ⟨al (Below.refl _ _).drew _, _, rfl, rfl, .inr ⟨w.heap.size, _, _, rfl, Nat.le_refl _, heap_alloc_new w.drew _, Nat.zero_le _, grownCap_le_maxLen w k 0 35 (by unfold maxLen; omega), ?_, by simp [rowV]⟩⟩
  have := grownCap_ge w k 0 35
  simp [Builtin.zeroCells, Value.cells]
  try omega

theorem growP0 (c : Nat → Int) (w : World) :
    Calls Tryd.prog 84 #[.slice none 0 0, .int .i64 0] w fun e w' => Below w.heap.size w w' ∧ ∃ v, e = .returned v ∧ OwnP w' w.heap.size v 0 c := by
  have B := Below.refl w.heap.size w
  go_enter Tryd.func84, Tryd.ntmps84
  go_wp2_with fail
  go_ret
  exact ⟨B, _, rfl, rfl, .inl ⟨rfl, rfl⟩⟩
theorem growP_any (k : Nat) (c : Nat → Int) (w : World) (hk : k ≤ 10000000) :
    Calls Tryd.prog 84 #[.slice none 0 0, .int .i64 (k : Int)] w fun e w' => Below w.heap.size w w' ∧ ∃ v, e = .returned v ∧ OwnP w' w.heap.size v 0 c := by
  rcases Nat.eq_zero_or_pos k with rfl | h
  · exact growP0 c w
  · exact growP k c w h hk
theorem concatP (bo n0 n1 cap0 cap1 : Nat) (b0 b1 : Nat) (c0 c1 : Nat → Int) (w : World) (hbo : bo < w.heap.size)
    (v0 : w.cell? ⟨bo, 0, none⟩ = some (.slice (some ⟨b0, 0, none⟩) n0 cap0)) (v1 : w.cell? ⟨bo, 1, none⟩ = some (.slice (some ⟨b1, 0, none⟩) n1 cap1))
    (hn : n0 + n1 ≤ 10000000) (r0 : Ac w b0 n0 c0) (r1 : Ac w b1 n1 c1) :
    Calls Tryd.prog 62 #[.slice (some ⟨bo, 0, none⟩) 2 2] w fun e w' => Below w.heap.size w w' ∧ ∃ v, e = .returned v ∧ OwnP w' w.heap.size v (n0 + n1) (ccP n0 c0 c1) := by
  obtain ⟨i0, hi, hz0, hz1, hz2⟩ := info_parts infoCell
  have R0 := Lib.hid r0
  have R1 := Lib.hid r1
  have V0 := Lib.hid v0
  have V1 := Lib.hid v1
  clear r0 r1 v0 v1
  go_enter Tryd.func62, Tryd.ntmps62
  go_wp2_with fail
  go_loopw [3, 11] (fun t3 t11 wr => ∃ k : Nat, k ≤ 2 ∧ t11 = .int .i64 k ∧ t3 = .int .i64 ((if k = 0 then 0 else if k = 1 then n0 else n0 + n1 : Nat) : Int) ∧ wr = w) (fun t3 t11 wr => 2 - (intOf t11).toNat)
  case atStart => exact ⟨0, by omega, rfl, rfl, by first | trivial | rfl⟩
  case round =>
    obtain ⟨k, hk, rfl, rfl, rfl⟩ := hrel
    obtain ⟨w0, rfl⟩ : ∃ w0 : World, w0 = wr := ⟨_, rfl⟩
    have hk3 : k = 0 ∨ k = 1 ∨ k = 2 := by omega
    rcases hk3 with rfl | rfl | rfl
    · have v0 := V0.out
      have q1 : decide ((n0 : Int) < 0) = false := by simp
      have q2 : IntKind.i64.wrap (n0 : Int) = (n0 : Int) := IntWalk.i64_in _ (by omega)
      go_wp2_with fail
      exact ⟨⟨1, by omega, by first | go_num | simp, by simp, by first | trivial | rfl⟩, by simp [intOf]⟩
    · have v1 := V1.out
      have q1 : decide (((n0 : Int) + (n1 : Int)) < 0) = false := by simp; omega
      have q2 : IntKind.i64.wrap ((n0 : Int) + (n1 : Int)) = (n0 : Int) + (n1 : Int) := IntWalk.i64_in _ (by omega)
      go_wp2_with fail
      exact ⟨⟨2, by omega, by first | go_num | simp, by simp, by first | trivial | rfl⟩, by simp [intOf]⟩
    · simp only [show ¬ ((2 : Nat) = 0) by decide, show ¬ ((2 : Nat) = 1) by decide, if_false]
      go_wp2_with fail
      refine (growP_any (n0 + n1) c0 _ hn).mono ?_
      rintro e W0 ⟨hb, v, rfl, O0⟩
      go_wp2_with fail
      go_loopw [6, 27] (fun t6 t27 wr => ∃ k : Nat, k ≤ 2 ∧ t27 = .int .i64 k ∧ Below w0.heap.size w0 wr ∧ OwnP wr w0.heap.size t6 (if k = 0 then 0 else if k = 1 then n0 else n0 + n1) (if k = 2 then ccP n0 c0 c1 else c0)) (fun t6 t27 wr => 2 - (intOf t27).toNat)
      case atStart => exact ⟨0, by omega, rfl, hb, O0⟩
      case round =>
        clear O0 hb
        obtain ⟨k, hk, rfl, B, O⟩ := hrel
        obtain ⟨v0, rfl⟩ : ∃ v0 : Value, v0 = u6 := ⟨_, rfl⟩
        have hk3 : k = 0 ∨ k = 1 ∨ k = 2 := by omega
        have HO := Lib.hid O
        have HB := Lib.hid B
        clear O B
        rcases hk3 with rfl | rfl | rfl
        · have x0 := (HB.out.cell (p := ⟨bo, 0, none⟩) hbo).trans V0.out
          have HQ : Hid (OwnP wr w0.heap.size v0 0 c0) := Lib.hid (by simpa using HO.out)
          clear HO
          go_wp2_with (at_builtin; refine wpList_append_own _ rfl _ _ 53 rfl w0.heap.size 35 i0 (.agg #[.int .i8 0, .int .i8 0]) 2 2 Tryd.underlying53 hi hz0 hz1 hz2 rfl (by decide) _ _ _ rfl HQ.out ⟨b0, 0, none⟩ n0 cap0 (rowV c0 n0) rfl (by rw [rowV_length]; omega) (newsP (R0.out.below HB.out)) (rowV_one _ _) (by show 0 + n0 ≤ maxLen; unfold maxLen; omega) (by show (0 + n0) * 2 ≤ _; omega) (by have := HB.out.size; omega) ?_; intro v' w1 own' hgr _)
          have O1 : OwnP w1 w0.heap.size v' n0 c0 := by
            have e : rowV c0 0 ++ rowV c0 n0 = rowV c0 n0 := rfl
            rw [Nat.zero_add, e] at own'
            exact own'
          have B1 : Below w0.heap.size w0 w1 := HB.out.grown hgr HB.out.size (fun k e => (World.ownsRow.lt HQ.out k e).1)
          clear own' hgr
          exact ⟨⟨1, by omega, by first | go_num | simp, B1, by simpa using O1⟩, by simp [intOf]⟩
        · have x1 := (HB.out.cell (p := ⟨bo, 1, none⟩) hbo).trans V1.out
          have HQ : Hid (OwnP wr w0.heap.size v0 n0 c0) := Lib.hid (by simpa using HO.out)
          clear HO
          go_wp2_with (at_builtin; refine wpList_append_own _ rfl _ _ 53 rfl w0.heap.size 35 i0 (.agg #[.int .i8 0, .int .i8 0]) 2 2 Tryd.underlying53 hi hz0 hz1 hz2 rfl (by decide) _ _ _ rfl HQ.out ⟨b1, 0, none⟩ n1 cap1 (rowV c1 n1) rfl (by rw [rowV_length]; omega) (newsP (R1.out.below HB.out)) (rowV_one _ _) (by unfold maxLen; omega) (by omega) (by have := HB.out.size; omega) ?_; intro v' w1 own' hgr _)
          have O1 : OwnP w1 w0.heap.size v' (n0 + n1) (ccP n0 c0 c1) := by
            rw [rowV_app] at own'
            exact own'
          have B1 : Below w0.heap.size w0 w1 := HB.out.grown hgr HB.out.size (fun k e => (World.ownsRow.lt HQ.out k e).1)
          clear own' hgr
          exact ⟨⟨2, by omega, by first | go_num | simp, B1, by simpa using O1⟩, by simp [intOf]⟩
        · go_wp2_with fail
          go_ret
          exact ⟨HB.out, _, rfl, by simpa using HO.out⟩

end Go.Proofs.YtmkcdelfgaogaaaDoor

namespace Go.Proofs.YtmkcdelfgaogaaaDoor
open Go Go.ChangeShapes Go.WideShapes Go.ChangeAt Go.RowKit
open Go.Maps (Keyed)
set_option linter.unusedVariables false
set_option linter.unusedSimpArgs false

theorem plainElem_bool_inv {H : Type} {P : Program} {e : TypeId} (he : P.underlying e = some .bool) {v : Value} {z : DataW H × List MemPlace} (h : plainElem P e v = some z) : ∃ x, v = .bool x ∧ z = (.lit (.bool x), []) := by
  unfold plainElem at h
  rw [he] at h
  cases v <;> simp at h
  exact ⟨_, rfl, h.symm⟩

theorem lookup_bool {H : Type} {P : Program} {w : World} {k : TypeId} {b n : Nat} {D : DataW H} {t e : TypeId} (h : w.ownsMap P k (plainElem P e) b n D) (K : Keyed P k) (ht : P.underlying t = some (.map k e)) (he : P.underlying e = some .bool) (hz : (zeroValue e).run P w = .ok (.bool false) w)
    {key : Value} {kl : Lit} (hkey : keyOf P k key = some kl) : ∃ c, (Instr.lookup t (.map (some b)) key false).run P w = .ok (.bool c) w ∧ D.atKey kl (.lit (.bool false)) = .lit (.bool c) := by
  obtain ⟨v, ps, hrun, hv⟩ := h.lookup K ht hz (plainElem_bool he false) hkey
  obtain ⟨c, rfl, hc⟩ := plainElem_bool_inv he hv
  simp only [Prod.mk.injEq] at hc
  exact ⟨c, hrun, hc.1⟩

theorem wpListIn_lookup_own_bool {H : Type} {F : Fence} {nF : Nat} {P : Program} (w : World) {ops : Array Oper} {rest : List Oper} {o : Oper} {a : Act} {Q : Exit → Act → World → Prop}
    (hg : o.guard = none) (m x : Operand) (t : TypeId) (hop : o.op = Op.lookup t m x false)
    (k e : TypeId) (K : Keyed P k) (ht : P.underlying t = some (.map k e)) (he : P.underlying e = some .bool) (hz : (zeroValue e).run P w = .ok (.bool false) w) (b n : Nat) (D : DataW H)
    (hm : a.eval m = .map (some b)) (hown : w.ownsMap P k (plainElem P e) b n D) (key : Value) (kl : Lit) (hx : a.eval x = key) (hkey : keyOf P k key = some kl) (c : Bool) (hat : D.atKey kl (.lit (.bool false)) = .lit (.bool c))
    (hK : wpListIn F nF P ops Q rest (a.put o.dst (.bool c)) w) :
    wpListIn F nF P ops Q (o :: rest) a w := by
  refine wpListIn_plain hg fun K' hK' => ?_
  obtain ⟨c', hrun, hat'⟩ := lookup_bool hown K ht he hz hkey
  obtain rfl : c' = c := by rw [hat] at hat'; injection hat' with h; injection h with h; exact h.symm
  unfold Oper.wpIn
  refine ⟨by simp [Oper.about, hop], ?_⟩
  rw [Oper.semAt_plain F _ _ (by rw [hop]; intro c hc'; cases hc')]
  simp [execOp, hop, hm, hx, hrun, Result.andThen]
  exact hK' _ _ hK

theorem snocInd {α : Type} {P : List α → Prop} (h0 : P []) (h1 : ∀ L x, P L → P (L ++ [x])) (L : List α) : P L := by
  have h : ∀ M : List α, P M.reverse := by
    intro M
    induction M with
    | nil => exact h0
    | cons x M ih => rw [List.reverse_cons]; exact h1 _ _ ih
  have := h L.reverse
  rwa [List.reverse_reverse] at this
/-- a set of numbers. -/
def setD {H : Type} (L : List Int) : DataW H := L.foldl (fun D x => D.put (.int .i64 x) (.lit (.bool true))) (.map [])
theorem setD_snoc {H : Type} (L : List Int) (x : Int) : setD (H := H) (L ++ [x]) = (setD L).put (.int .i64 x) (.lit (.bool true)) := by simp [setD]
theorem setD_isMap {H : Type} (L : List Int) : Maps.IsMap (setD (H := H) L) :=
  snocInd (P := fun L => Maps.IsMap (setD (H := H) L)) Maps.isMap_empty (fun L x ih => by rw [setD_snoc]; exact ih.put _ _) L
theorem setD_at {H : Type} (L : List Int) (x : Int) : (setD (H := H) L).atKey (.int .i64 x) (.lit (.bool false)) = .lit (.bool (decide (x ∈ L))) := by
  refine snocInd (P := fun L => (setD (H := H) L).atKey (.int .i64 x) (.lit (.bool false)) = .lit (.bool (decide (x ∈ L)))) rfl (fun L y ih => ?_) L
  rw [setD_snoc]
  by_cases e : x = y
  · subst e
    rw [Maps.atKey_put_same (setD_isMap L) (show WideAt.IsKeyLit (.int .i64 x) from trivial)]
    simp
  · rw [Maps.atKey_put_other (by intro h; injection h with _ h; exact e h), ih]
    simp [e]
end Go.Proofs.YtmkcdelfgaogaaaDoor

namespace Go.Proofs.YtmkcdelfgaogaaaDoor
open Go Go.ChangeShapes Go.WideShapes Go.ChangeAt Go.RowKit
open Go.Maps (Keyed)
set_option linter.unusedVariables false
set_option linter.unusedSimpArgs false
set_option maxRecDepth 100000
set_option maxHeartbeats 2000000

/-- a point's key. -/
def keyP (a b : Int) : Lit := .string (keyBytes [.int .i8 a, .int .i8 b])
theorem keyed_pt : Keyed Tryd.prog 35 := Keyed.of_law (deep_law_laid laidOutE (m := 2) (by omega) (by decide +kernel) (by kernel_rfl) (by simp only [Tryd.underlying35]))
theorem keyType_pt : Tryd.prog.keyType 35 = true := by kernel_rfl
theorem cellsOf_pt : Tryd.prog.cellsOf 35 = 2 := by kernel_rfl
theorem keyOf_pt {a b : Int} (wa : -128 ≤ a ∧ a ≤ 127) (wb : -128 ≤ b ∧ b ≤ 127) : keyOf Tryd.prog 35 (.agg #[.int .i8 a, .int .i8 b]) = some (keyP a b) := by
  have h1 : (Lit.int .i8 a).wf = true := w8e wa
  have h2 : (Lit.int .i8 b).wf = true := w8e wb
  obtain ⟨m, hm⟩ := typesNe
  unfold keyOf
  simp only [Tryd.underlying35]
  rw [if_pos (by simp [keyType_pt, Value.formed, Tryd.underlying35, cellsOf_pt]), hm]
  unfold Program.keyLits
  simp only [Tryd.underlying35, Value.cells]
  rw [if_pos (by simp [cellsOf_pt])]
  simp [Program.keyLits, Tryd.underlying22, cellsOf_i8e, h1, h2, keyP]
theorem keyP_inj {a b a' b' : Int} (wa : -128 ≤ a ∧ a ≤ 127) (wb : -128 ≤ b ∧ b ≤ 127) (wa' : -128 ≤ a' ∧ a' ≤ 127) (wb' : -128 ≤ b' ∧ b' ≤ 127) (h : keyP a b = keyP a' b') : a = a' ∧ b = b' := by
  have := keyed_pt.inj (keyOf_pt wa wb) (by rw [h]; exact keyOf_pt wa' wb')
  injection this with this
  simp at this
  exact this
/-- the set of the first n points. -/
def psD (c : Nat → Int) : Nat → DataW Unit
  | 0 => .map []
  | n + 1 => (psD c n).put (keyP (PX c n) (PY c n)) (.lit (.bool true))
theorem psD_isMap (c : Nat → Int) : ∀ n, Maps.IsMap (psD c n)
  | 0 => Maps.isMap_empty
  | n + 1 => (psD_isMap c n).put _ _
theorem psD_at {c : Nat → Int} (hc : ∀ j, -128 ≤ c j ∧ c j ≤ 127) {a b : Int} (wa : -128 ≤ a ∧ a ≤ 127) (wb : -128 ≤ b ∧ b ≤ 127) : ∀ n (r : Bool), (r = true ↔ HasPt n (PX c) (PY c) a b) → (psD c n).atKey (keyP a b) (.lit (.bool false)) = .lit (.bool r)
  | 0, r, h => by
    obtain rfl : r = false := by
      cases r; rfl
      obtain ⟨j, hj, _⟩ := h.1 rfl
      omega
    rfl
  | n + 1, r, h => by
    unfold psD
    by_cases e : PX c n = a ∧ PY c n = b
    · rw [e.1, e.2]
      obtain rfl : r = true := h.2 ⟨n, by omega, e.1, e.2⟩
      exact Maps.atKey_put_same (psD_isMap c n) (show WideAt.IsKeyLit (keyP a b) from trivial) _ _
    · have hne : keyP a b ≠ keyP (PX c n) (PY c n) := fun e' => by
        have := keyP_inj wa wb (hc _) (hc _) e'
        exact e ⟨this.1.symm, this.2.symm⟩
      rw [Maps.atKey_put_other hne]
      refine psD_at hc wa wb n r (h.trans ⟨?_, ?_⟩)
      · rintro ⟨j, hj, h1, h2⟩
        by_cases hjn : j = n
        · subst hjn; exact absurd ⟨h1, h2⟩ e
        · exact ⟨j, by omega, h1, h2⟩
      · rintro ⟨j, hj, h1, h2⟩
        exact ⟨j, by omega, h1, h2⟩
/-- the map m holds the first n points. -/
def PSet (W : World) (m n : Nat) (c : Nat → Int) : Prop := W.ownsMap Tryd.prog 35 (plainElem (H := Unit) Tryd.prog 4) m n (psD c n)
theorem PSet.lt {W : World} {m n : Nat} {c : Nat → Int} (h : PSet W m n c) : m < W.heap.size := World.ownsMap.lt h
theorem PSet.of_block {W W' : World} {m n : Nat} {c : Nat → Int} (h : PSet W m n c) (hb : W'.heap[m]? = W.heap[m]?) : PSet W' m n c := by
  obtain ⟨es, ck, h1, r⟩ := h
  exact ⟨es, ck, hb.trans h1, r⟩
theorem PSet.alloc {W : World} {m n : Nat} {c : Nat → Int} (h : PSet W m n c) (o : Obj) : PSet (W.alloc o) m n c := h.of_block (Below.heap_alloc _ _ _ h.lt)
theorem PSet.new (w : World) (c : Nat → Int) : PSet (w.alloc (.map #[] 0)) w.heap.size 0 c := World.ownsMap_made w Tryd.prog _ _
theorem PSet.look {W : World} {m n : Nat} {c : Nat → Int} (h : PSet W m n c) (hc : ∀ j, -128 ≤ c j ∧ c j ≤ 127) {a b : Int} (wa : -128 ≤ a ∧ a ≤ 127) (wb : -128 ≤ b ∧ b ≤ 127) {r : Bool} (hr : r = true ↔ HasPt n (PX c) (PY c) a b) :
    (Instr.lookup 87 (.map (some m)) (.agg #[.int .i8 a, .int .i8 b]) false).run Tryd.prog W = .ok (.bool r) W := by
  obtain ⟨x, hrun, hat⟩ := lookup_bool h keyed_pt Tryd.underlying87 Tryd.underlying4 (Tryd.zeroValue4 W) (keyOf_pt wa wb)
  rw [psD_at hc wa wb n r hr] at hat
  injection hat with hat
  injection hat with hat
  rw [hat]
  exact hrun
theorem PSet.store {W : World} {m n : Nat} {c : Nat → Int} (h : PSet W m n c) (hl : n < maxLen) (wa : -128 ≤ PX c n ∧ PX c n ≤ 127) (wb : -128 ≤ PY c n ∧ PY c n ≤ 127) :
    ∃ W', (Instr.mapUpdate 87 (.map (some m)) (.agg #[.int .i8 (PX c n), .int .i8 (PY c n)]) (.bool true)).run Tryd.prog W = .ok () W' ∧ PSet W' m (n + 1) c ∧ W.mapTurned W' m :=
  World.ownsMap.store h keyed_pt Tryd.underlying87 hl (keyOf_pt wa wb) (plainElem_bool Tryd.underlying4 true)
end Go.Proofs.YtmkcdelfgaogaaaDoor

namespace Go.Proofs.YtmkcdelfgaogaaaDoor
open Go Go.ChangeShapes Go.WideShapes Go.ChangeAt Go.RowKit
set_option linter.unusedVariables false
set_option linter.unusedSimpArgs false
set_option maxRecDepth 100000
set_option maxHeartbeats 4000000

/-- all that MeetOf asks of a square and two cracks. -/
def MoIn (X Y : Int) (n : Nat) (c : Nat → Int) (na nb : Nat) (ca cb : Nat → Int) : Prop := Valid X Y n c ∧ AllIn X Y (na + nb) (PX (ccP na ca cb)) (PY (ccP na ca cb))
def MoOk (X Y : Int) (n : Nat) (c : Nat → Int) (na nb : Nat) (ca cb : Nat → Int) : Prop := MoIn X Y n c na nb ca cb ∧ Along (gridN c n) na (PX ca) (PY ca) ∧ Along (gridN c n) nb (PX cb) (PY cb)
/-- what MeetOf answers. -/
def MoPost (X Y : Int) (n : Nat) (c : Nat → Int) (na nb : Nat) (ca cb : Nat → Int) (w : World) (e : Ending) (w' : World) : Prop :=
  Below w.heap.size w w' ∧ ((¬ Valid X Y n c ∧ e = .returned (.tuple #[.agg #[.int .i8 0, .int .i8 0], .int .i64 1])) ∨
    (Valid X Y n c ∧ ¬ AllIn X Y (na + nb) (PX (ccP na ca cb)) (PY (ccP na ca cb)) ∧ e = .returned (.tuple #[.agg #[.int .i8 0, .int .i8 0], .int .i64 2])) ∨
    (MoIn X Y n c na nb ca cb ∧ ¬ (Along (gridN c n) na (PX ca) (PY ca) ∧ Along (gridN c n) nb (PX cb) (PY cb)) ∧ e = .returned (.tuple #[.agg #[.int .i8 0, .int .i8 0], .int .i64 4])) ∨
    (MoOk X Y n c na nb ca cb ∧ ((∃ i, i < na ∧ HasPt nb (PX cb) (PY cb) (PX ca i) (PY ca i) ∧ (∀ j, j < i → ¬ HasPt nb (PX cb) (PY cb) (PX ca j) (PY ca j)) ∧ e = .returned (.tuple #[.agg #[.int .i8 (PX ca i), .int .i8 (PY ca i)], .int .i64 0])) ∨
      ((∀ j, j < na → ¬ HasPt nb (PX cb) (PY cb) (PX ca j) (PY ca j)) ∧ e = .returned (.tuple #[.agg #[.int .i8 0, .int .i8 0], .int .i64 6])))))
theorem dec_exB (p : Prop) : ∃ r : Bool, r = true ↔ p := by
  by_cases h : p
  · exact ⟨true, ⟨fun _ => h, fun _ => rfl⟩⟩
  · exact ⟨false, ⟨fun h' => Bool.noConfusion h', fun h' => absurd h' h⟩⟩

theorem specMo_any (X Y : Int) (g ga gb n na nb : Nat) (c ca cb : Nat → Int) (w : World) (hX : -128 ≤ X ∧ X ≤ 127) (hY : -128 ≤ Y ∧ Y ≤ 127) (hc : ∀ j, -128 ≤ c j ∧ c j ≤ 127) (hca : ∀ j, -128 ≤ ca j ∧ ca j ≤ 127) (hcb : ∀ j, -128 ≤ cb j ∧ cb j ≤ 127) (hm : n ≤ 1048576) (hna : na ≤ 1048576) (hnb : nb ≤ 1048576)
    (hrow : w.rowIs g 105 (4 * n) (fun j => .int .i8 (c j))) (hA : Ac w ga na ca) (hB : Ac w gb nb cb) :
    Calls Tryd.prog 23 #[.agg #[.int .i8 X, .int .i8 Y, .slice (some ⟨g, 0, none⟩) n n], .slice (some ⟨ga, 0, none⟩) na na, .slice (some ⟨gb, 0, none⟩) nb nb] w (MoPost X Y n c na nb ca cb w) := by
  obtain ⟨i0, hi, hz0, hz1, hz2⟩ := info_parts infoCell
  have HC := Lib.hid hc
  have HCA := Lib.hid hca
  have HCB := Lib.hid hcb
  clear hc hca hcb
  have X3 := ((Sq.new w X Y (.slice (some ⟨g, 0, none⟩) n n) 33).alloc (.cells #[.int .i8 0, .int .i8 0] 35)).alloc (.cells #[] 35)
  have X6 := (Bx.new (w.alloc (.cells #[.int .i8 X, .int .i8 Y, .slice (some ⟨g, 0, none⟩) n n] 33)) #[.int .i8 0, .int .i8 0] 35).alloc (.cells #[] 35)
  have B := al (al (al (Below.refl w.heap.size w) (.cells #[.int .i8 X, .int .i8 Y, .slice (some ⟨g, 0, none⟩) n n] 33)) (.cells #[.int .i8 0, .int .i8 0] 35)) (.cells #[] 35)
  have O : OwnP (((w.alloc (.cells #[.int .i8 X, .int .i8 Y, .slice (some ⟨g, 0, none⟩) n n] 33)).alloc (.cells #[.int .i8 0, .int .i8 0] 35)).alloc (.cells #[] 35)) ((w.alloc (.cells #[.int .i8 X, .int .i8 Y, .slice (some ⟨g, 0, none⟩) n n] 33)).alloc (.cells #[.int .i8 0, .int .i8 0] 35)).heap.size (.slice (some ⟨((w.alloc (.cells #[.int .i8 X, .int .i8 Y, .slice (some ⟨g, 0, none⟩) n n] 33)).alloc (.cells #[.int .i8 0, .int .i8 0] 35)).heap.size, 0, none⟩) 0 0) 0 ca := World.ownsRow_made _ #[] 0 (Nat.le_refl _) (Nat.zero_le _) rfl
  have e1 : (w.alloc (.cells #[.int .i8 X, .int .i8 Y, .slice (some ⟨g, 0, none⟩) n n] 33)).heap.size = w.heap.size + 1 := by simp
  have e2 : ((w.alloc (.cells #[.int .i8 X, .int .i8 Y, .slice (some ⟨g, 0, none⟩) n n] 33)).alloc (.cells #[.int .i8 0, .int .i8 0] 35)).heap.size = w.heap.size + 1 + 1 := by simp
  rw [e1] at X6
  rw [e2] at O
  obtain ⟨W0, hW0⟩ : ∃ W0 : World, W0 = ((w.alloc (.cells #[.int .i8 X, .int .i8 Y, .slice (some ⟨g, 0, none⟩) n n] 33)).alloc (.cells #[.int .i8 0, .int .i8 0] 35)).alloc (.cells #[] 35) := ⟨_, rfl⟩
  rw [← hW0] at X3 X6 B O
  have HAP := Lib.hid (newsP (hA.below B))
  have hl0 : w.heap.size + 1 + 1 ≤ W0.heap.size := Nat.le_of_lt (World.ownsRow.lt O _ rfl).2
  have HO := Lib.hid O
  clear e1 e2 O
  go_enter Tryd.func23, Tryd.ntmps23
  go_wp2_with (first
    | (at_builtin; rw [← hW0]; refine wpList_append_own _ rfl _ _ 53 rfl (w.heap.size + 1 + 1) 35 i0 (.agg #[.int .i8 0, .int .i8 0]) 2 2 Tryd.underlying53 hi hz0 hz1 hz2 rfl (by decide) _ _ _ rfl HO.out ⟨ga, 0, none⟩ na na (rowV ca na) rfl (by rw [rowV_length]; omega) HAP.out (rowV_one _ _) (by show 0 + na ≤ maxLen; unfold maxLen; omega) (by show (0 + na) * 2 ≤ _; omega) hl0 ?_; intro v1 w1 own1 hgr1 _; clear hW0)
    | (at_builtin; refine wpList_append_own _ rfl _ _ 53 rfl (w.heap.size + 1 + 1) 35 i0 (.agg #[.int .i8 0, .int .i8 0]) 2 2 Tryd.underlying53 hi hz0 hz1 hz2 rfl (by decide) _ _ _ rfl own1 ⟨gb, 0, none⟩ nb nb (rowV cb nb) rfl (by rw [rowV_length]; omega) (newsP ((hB.below B).kept hgr1.size (hgr1.block _ (Nat.lt_of_lt_of_le hB.1 B.size) (fun e => by have := (World.ownsRow.lt HO.out _ e.symm).1; have := hB.1; omega)))) (rowV_one _ _) (by show 0 + na + nb ≤ maxLen; unfold maxLen; omega) (by show (0 + na + nb) * 2 ≤ _; omega) (by have := hgr1.size; omega) ?_; intro v2 w2 own2 hgr2 _))
  have O2 : OwnP w2 (w.heap.size + 1 + 1) v2 (na + nb) (ccP na ca cb) := by
    have e : rowV ca 0 ++ rowV ca na = rowV ca na := rfl
    rw [e, rowV_app, Nat.zero_add] at own2
    exact own2
  have hn1 : ∀ k, k < w.heap.size + 1 + 1 → w1.heap[k]? = W0.heap[k]? := fun k hk => hgr1.block _ (by omega) (fun e => by have := (World.ownsRow.lt HO.out _ e.symm).1; omega)
  have hn2 : ∀ k, k < w.heap.size + 1 + 1 → w2.heap[k]? = W0.heap[k]? := fun k hk => (hgr2.block _ (by have := hgr1.size; omega) (fun e => by have := (World.ownsRow.lt own1 _ e.symm).1; omega)).trans (hn1 k hk)
  have hs2 : W0.heap.size ≤ w2.heap.size := Nat.le_trans hgr1.size hgr2.size
  replace B : Below w.heap.size w w2 := (B.grown hgr1 B.size (fun k e => by have := (World.ownsRow.lt HO.out _ e).1; omega)).grown hgr2 (by have := B.size; have := hgr1.size; omega) (fun k e => by have := (World.ownsRow.lt own1 _ e).1; omega)
  replace X3 := X3.of_block hs2 (hn2 _ (by omega))
  replace X6 := X6.of_block (hn2 _ (by omega))
  clear own1 own2 hgr1 hgr2 hn1 hn2 HO HAP hi hz0 hz1 hz2
  obtain ⟨A2, cap2, rfl, hcap2⟩ := O2.shape
  refine (told_any X Y _ g n c _ (na + nb) cap2 (PX (ccP na ca cb)) (PY (ccP na ca cb)) true w2 hX hY HC.out hm X3 (hrow.of_block (B.block _ hrow.lt)) (by omega) hcap2 O2.rdP (fun j => ccP_8 HCA.out HCB.out _) (fun j => ccP_8 HCA.out HCB.out _)).mono ?_
  rintro e w3 ⟨hb, cs, hsz, hone, hcase⟩
  replace X6 := X6.below hb
  have hl6 := X6.lt
  replace B := nxt B hb
  have hsz1 := B.size
  replace B := al B (.cells Tryd.zeroCells64 64)
  have h9 := heap_alloc_new w3 (.cells Tryd.zeroCells64 64)
  have H9 := Lib.hid h9
  replace B := below_setRow B hsz1 cs
  replace X6 : Bx ((w3.alloc (.cells Tryd.zeroCells64 64)).setRow w3.heap.size cs) (w.heap.size + 1) #[.int .i8 0, .int .i8 0] 35 := (X6.alloc _).of_block (setRow_other _ w3.heap.size _ cs (by omega))
  have h9' := setRow_heap _ w3.heap.size _ cs _ _ h9
  obtain ⟨W4, hW4⟩ : ∃ W4 : World, W4 = (w3.alloc (.cells Tryd.zeroCells64 64)).setRow w3.heap.size cs := ⟨_, rfl⟩
  rw [← hW4] at X6 B h9'
  clear hb X3 O2 h9
  rcases hcase with ⟨hv, rfl⟩ | ⟨hv, hn, rfl⟩ | ⟨hv, hy, hcell, rfl⟩
  · have HV := Lib.hid hv
    clear hv h9'
    rw [hW4] at X6 B
    clear hW4
    have f60 := X6.frozen 0
    have f61 := X6.frozen 1
    have s60 := X6.cell 0
    have s61 := X6.cell 1
    simp only [List.getElem?_toArray, List.getElem?_cons_zero, List.getElem?_cons_succ] at s60 s61
    go_wp2_with (first
      | (refine wpList_store_row rfl 64 (.tmp 9) (.tmp 20) rfl w3.heap.size cs rfl rfl 64 Tryd.zeroCells64 H9.out (by rw [info93, hsz]) (by rw [zc_size, hsz]) hone ?_))
    have Y6 := (X6.set 0 (.int .i8 0)).set 1 (.int .i8 0)
    have q60 := Y6.cell 0
    have q61 := Y6.cell 1
    simp at q60 q61
    exact bodyPost_ret (v := .tuple #[.agg #[.int .i8 0, .int .i8 0], .int .i64 1]) (by simp [results, Tryd.results23, go_sem, q60, q61]) rfl ⟨((B.setCell (p := ⟨w.heap.size + 1, 0, none⟩) (by simp) (.int .i8 0)).setCell (p := ⟨w.heap.size + 1, 1, none⟩) (by simp) (.int .i8 0)), .inl ⟨HV.out, rfl⟩⟩
  · have HV := Lib.hid hv
    have HN := Lib.hid hn
    clear hv hn h9'
    rw [hW4] at X6 B
    clear hW4
    have f60 := X6.frozen 0
    have f61 := X6.frozen 1
    have s60 := X6.cell 0
    have s61 := X6.cell 1
    simp only [List.getElem?_toArray, List.getElem?_cons_zero, List.getElem?_cons_succ] at s60 s61
    go_wp2_with (first
      | (refine wpList_store_row rfl 64 (.tmp 9) (.tmp 20) rfl w3.heap.size cs rfl rfl 64 Tryd.zeroCells64 H9.out (by rw [info93, hsz]) (by rw [zc_size, hsz]) hone ?_))
    have Y6 := (X6.set 0 (.int .i8 0)).set 1 (.int .i8 0)
    have q60 := Y6.cell 0
    have q61 := Y6.cell 1
    simp at q60 q61
    exact bodyPost_ret (v := .tuple #[.agg #[.int .i8 0, .int .i8 0], .int .i64 2]) (by simp [results, Tryd.results23, go_sem, q60, q61]) rfl ⟨((B.setCell (p := ⟨w.heap.size + 1, 0, none⟩) (by simp) (.int .i8 0)).setCell (p := ⟨w.heap.size + 1, 1, none⟩) (by simp) (.int .i8 0)), .inr (.inl ⟨HV.out, fun h => HN.out ⟨by trivial, h⟩, rfl⟩)⟩
  have R : W4.rowIs w3.heap.size 64 144 (fun p => .int .i64 (gridN c n p)) := ⟨cs, h9', hsz, hcell⟩
  have HIN := Lib.hid (show MoIn X Y n c na nb ca cb from ⟨hv, hy.2⟩)
  obtain ⟨ya, yb⟩ := all_cc.1 hy.2
  have hX12 := hv.2.1
  have hY12 := hv.2.2.2.1
  obtain ⟨ra, era⟩ := dec_exB (Along (gridN c n) na (PX ca) (PY ca))
  obtain ⟨rb, erb⟩ := dec_exB (Along (gridN c n) nb (PX cb) (PY cb))
  have HA1 := Lib.hid (alongS_any w3.heap.size (some ⟨ga, 0, none⟩) na na (PX ca) (PY ca) (gridN c n) X Y ra W4 (by omega) (Nat.le_refl _) hX12 hY12 (hA.below B).rdP ya R era)
  have HB1 := Lib.hid (fun W' (hb : Below W4.heap.size W4 W') => alongS_any w3.heap.size (some ⟨gb, 0, none⟩) nb nb (PX cb) (PY cb) (gridN c n) X Y rb W' (by omega) (Nat.le_refl _) hX12 hY12 (hB.below (nxt B hb)).rdP yb (R.of_block (hb.block _ R.lt)) erb)
  have ERA := Lib.hid era
  have ERB := Lib.hid erb
  clear hv hy ya yb hX12 hY12 era erb R hcell h9'
  go_wp2_with (first
    | (refine wpList_store_row rfl 64 (.tmp 9) (.tmp 20) rfl w3.heap.size cs rfl rfl 64 Tryd.zeroCells64 H9.out (by rw [info93, hsz]) (by rw [zc_size, hsz]) hone ?_))
  rw [← hW4]
  clear hW4 H9 hone hsz
  refine HA1.out.mono ?_
  rintro e w5 ⟨rfl, hb⟩
  replace X6 := X6.below hb
  replace B := nxt B hb
  have BB := hb
  clear hb HA1
  cases ra with
  | false =>
    have f60 := X6.frozen 0
    have f61 := X6.frozen 1
    have s60 := X6.cell 0
    have s61 := X6.cell 1
    simp only [List.getElem?_toArray, List.getElem?_cons_zero, List.getElem?_cons_succ] at s60 s61
    go_wp2
    have Y6 := (X6.set 0 (.int .i8 0)).set 1 (.int .i8 0)
    have q60 := Y6.cell 0
    have q61 := Y6.cell 1
    simp at q60 q61
    exact bodyPost_ret (v := .tuple #[.agg #[.int .i8 0, .int .i8 0], .int .i64 4]) (by simp [results, Tryd.results23, go_sem, q60, q61]) rfl ⟨((B.setCell (p := ⟨w.heap.size + 1, 0, none⟩) (by simp) (.int .i8 0)).setCell (p := ⟨w.heap.size + 1, 1, none⟩) (by simp) (.int .i8 0)), .inr (.inr (.inl ⟨HIN.out, fun h => absurd (ERA.out.2 h.1) (by decide), rfl⟩))⟩
  | true =>
    go_wp2_with fail
    refine (HB1.out w5 BB).mono ?_
    rintro e w6 ⟨rfl, hb⟩
    replace X6 := X6.below hb
    replace B := nxt B hb
    clear hb HB1 BB
    cases rb with
    | false =>
      have f60 := X6.frozen 0
      have f61 := X6.frozen 1
      have s60 := X6.cell 0
      have s61 := X6.cell 1
      simp only [List.getElem?_toArray, List.getElem?_cons_zero, List.getElem?_cons_succ] at s60 s61
      go_wp2
      have Y6 := (X6.set 0 (.int .i8 0)).set 1 (.int .i8 0)
      have q60 := Y6.cell 0
      have q61 := Y6.cell 1
      simp at q60 q61
      exact bodyPost_ret (v := .tuple #[.agg #[.int .i8 0, .int .i8 0], .int .i64 4]) (by simp [results, Tryd.results23, go_sem, q60, q61]) rfl ⟨((B.setCell (p := ⟨w.heap.size + 1, 0, none⟩) (by simp) (.int .i8 0)).setCell (p := ⟨w.heap.size + 1, 1, none⟩) (by simp) (.int .i8 0)), .inr (.inr (.inl ⟨HIN.out, fun h => absurd (ERB.out.2 h.2) (by decide), rfl⟩))⟩
    | true =>
      have HOK := Lib.hid (show MoOk X Y n c na nb ca cb from ⟨HIN.out, ERA.out.1 (by trivial), ERB.out.1 (by trivial)⟩)
      clear HIN ERA ERB
      go_wp2_with fail
      go_loopw [11] (fun t11 wr => ∃ i : Nat, i ≤ na ∧ t11 = .int .i64 (i : Int) ∧ Below w.heap.size w wr ∧ Bx wr (w.heap.size + 1) #[.int .i8 0, .int .i8 0] 35 ∧ (∀ j, j < i → ¬ HasPt nb (PX cb) (PY cb) (PX ca j) (PY ca j))) (fun t11 wr => na - (intOf t11).toNat)
      case atStart => exact ⟨0, by omega, by simp, B, X6, fun j hj => by omega⟩
      case round =>
        clear B X6
        obtain ⟨i, hi, rfl, B, X6, hno⟩ := hrel
        obtain ⟨wo, rfl⟩ : ∃ wo : World, wo = wr := ⟨_, rfl⟩
        have HNO := Lib.hid hno
        clear hno
        by_cases hlt : i < na
        · have hli : (i : Int) < (na : Int) := by omega
          obtain ⟨b', off, e', hbl, hcl⟩ := (hA.below B).rdP (by omega)
          obtain ⟨rfl, rfl⟩ : b' = ga ∧ off = 0 := by simp at e'; exact ⟨e'.1.symm, e'.2.symm⟩
          obtain ⟨cx, cy⟩ := hcl i hlt
          obtain ⟨x, hx⟩ : ∃ x, PX ca i = x := ⟨_, rfl⟩
          obtain ⟨y, hy⟩ : ∃ y, PY ca i = y := ⟨_, rfl⟩
          rw [hx] at cx
          rw [hy] at cy
          have HXY := Lib.hid (And.intro hx hy)
          obtain ⟨r, er⟩ := dec_exB (HasPt nb (PX cb) (PY cb) x y)
          have HH := Lib.hid (l06Has_any (some ⟨gb, 0, none⟩) nb nb (PX cb) (PY cb) x y r wo (by omega) (Nat.le_refl _) (hB.below B).rdP er)
          have ER := Lib.hid er
          simp only [Nat.zero_add] at cx cy
          clear er hx hy hcl e'
          go_wp2_with fail
          refine HH.out.mono ?_
          rintro e w7 ⟨rfl, hb⟩
          replace X6 := X6.below hb
          replace B := nxt B hb
          replace cx := cell_below cx hb
          replace cy := cell_below cy hb
          clear hb HH
          cases r with
          | true =>
            have f60 := X6.frozen 0
            have f61 := X6.frozen 1
            have s60 := X6.cell 0
            have s61 := X6.cell 1
            simp only [List.getElem?_toArray, List.getElem?_cons_zero, List.getElem?_cons_succ] at s60 s61
            go_wp2
            have Y6 := (X6.set 0 (.int .i8 x)).set 1 (.int .i8 y)
            have q60 := Y6.cell 0
            have q61 := Y6.cell 1
            simp at q60 q61
            exact bodyPost_ret (v := .tuple #[.agg #[.int .i8 x, .int .i8 y], .int .i64 0]) (by simp [results, Tryd.results23, go_sem, q60, q61]) rfl ⟨((B.setCell (p := ⟨w.heap.size + 1, 0, none⟩) (by simp) (.int .i8 x)).setCell (p := ⟨w.heap.size + 1, 1, none⟩) (by simp) (.int .i8 y)), .inr (.inr (.inr ⟨HOK.out, .inl ⟨i, hlt, by rw [HXY.out.1, HXY.out.2]; exact ER.out.1 (by trivial), HNO.out, by rw [HXY.out.1, HXY.out.2]⟩⟩))⟩
          | false =>
            go_wp2
            refine ⟨⟨i + 1, by omega, by first | go_num | simp, B, X6, fun j hj => ?_⟩, by simp [intOf]; omega⟩
            by_cases e : j = i
            · subst e
              rw [HXY.out.1, HXY.out.2]
              intro h
              exact absurd (ER.out.2 h) (by decide)
            · exact HNO.out j (by omega)
        · obtain rfl : i = na := by omega
          have f60 := X6.frozen 0
          have f61 := X6.frozen 1
          have s60 := X6.cell 0
          have s61 := X6.cell 1
          simp only [List.getElem?_toArray, List.getElem?_cons_zero, List.getElem?_cons_succ] at s60 s61
          go_wp2
          have Y6 := (X6.set 0 (.int .i8 0)).set 1 (.int .i8 0)
          have q60 := Y6.cell 0
          have q61 := Y6.cell 1
          simp at q60 q61
          exact bodyPost_ret (v := .tuple #[.agg #[.int .i8 0, .int .i8 0], .int .i64 6]) (by simp [results, Tryd.results23, go_sem, q60, q61]) rfl ⟨((B.setCell (p := ⟨w.heap.size + 1, 0, none⟩) (by simp) (.int .i8 0)).setCell (p := ⟨w.heap.size + 1, 1, none⟩) (by simp) (.int .i8 0)), .inr (.inr (.inr ⟨HOK.out, .inr ⟨HNO.out, rfl⟩⟩))⟩
end Go.Proofs.YtmkcdelfgaogaaaDoor

namespace Go.Proofs.YtmkcdelfgaogaaaDoor
open Go Go.ChangeShapes Go.WideShapes Go.ChangeAt Go.RowKit
set_option linter.unusedVariables false
set_option linter.unusedSimpArgs false
set_option maxRecDepth 100000
set_option maxHeartbeats 4000000

/-- what jointsAlong answers: a map or none, an error or none. -/
def JlPost (X Y : Int) (n : Nat) (c : Nat → Int) (na nb : Nat) (ca cb : Nat → Int) (a0 a1 a3 : Addr) (w : World) (e : Ending) (w' : World) : Prop :=
  Below w.heap.size w w' ∧ ∃ v1 v2, e = .returned (.tuple #[v1, v2]) ∧ ((¬ Valid X Y n c ∧ v2 = .iface 165 (.pointer (some a0))) ∨
    (Valid X Y n c ∧ ¬ AllIn X Y (na + nb) (PX (ccP na ca cb)) (PY (ccP na ca cb)) ∧ v2 = .iface 165 (.pointer (some a1))) ∨
    (MoIn X Y n c na nb ca cb ∧ ¬ (Along (gridN c n) na (PX ca) (PY ca) ∧ Along (gridN c n) nb (PX cb) (PY cb)) ∧ v2 = .iface 165 (.pointer (some a3))) ∨
    (MoOk X Y n c na nb ca cb ∧ v2 = .nilIface))
/-- jointsFor's answer, told by its two values. -/
theorem JfPost.two {X Y : Int} {n k : Nat} {c px py : Nat → Int} {a0 a1 : Addr} {w : World} {e : Ending} {w' : World} (h : JfPost X Y n k c px py a0 a1 w e w') :
    Below w.heap.size w w' ∧ ∃ v1 v2, e = .returned (.tuple #[v1, v2]) ∧ ((¬ Valid X Y n c ∧ v1 = .map none ∧ v2 = .iface 165 (.pointer (some a0))) ∨
      (Valid X Y n c ∧ ¬ AllIn X Y k px py ∧ v1 = .map none ∧ v2 = .iface 165 (.pointer (some a1))) ∨
      (Valid X Y n c ∧ AllIn X Y k px py ∧ ∃ m, v1 = .map (some m) ∧ v2 = .nilIface ∧ w.heap.size ≤ m ∧ EMap w' m (jl X.toNat (gridN c n) (X.toNat * Y.toNat)))) := by
  refine ⟨h.1, ?_⟩
  rcases h.2 with ⟨h1, rfl⟩ | ⟨h1, h2, rfl⟩ | ⟨h1, h2, m, rfl, h3, h4⟩
  · exact ⟨_, _, rfl, .inl ⟨h1, rfl, rfl⟩⟩
  · exact ⟨_, _, rfl, .inr (.inl ⟨h1, h2, rfl, rfl⟩)⟩
  · exact ⟨_, _, rfl, .inr (.inr ⟨h1, h2, m, rfl, rfl, h3, h4⟩)⟩

theorem jointsAlong_any (X Y : Int) (g ga gb bo n na nb : Nat) (c ca cb : Nat → Int) (a0 a1 a2 a3 : Addr) (w : World) (hX : -128 ≤ X ∧ X ≤ 127) (hY : -128 ≤ Y ∧ Y ≤ 127) (hc : ∀ j, -128 ≤ c j ∧ c j ≤ 127) (hca : ∀ j, -128 ≤ ca j ∧ ca j ≤ 127) (hcb : ∀ j, -128 ≤ cb j ∧ cb j ≤ 127) (hm : n ≤ 1048576) (hna : na ≤ 1048576) (hnb : nb ≤ 1048576)
    (hrow : w.rowIs g 105 (4 * n) (fun j => .int .i8 (c j))) (hA : Ac w ga na ca) (hB : Ac w gb nb cb) (hbo : bo < w.heap.size) (hv0 : w.cell? ⟨bo, 0, none⟩ = some (.slice (some ⟨ga, 0, none⟩) na na)) (hv1 : w.cell? ⟨bo, 1, none⟩ = some (.slice (some ⟨gb, 0, none⟩) nb nb)) (hS : Sent4 w a0 a1 a2 a3) :
    Calls Tryd.prog 44 #[.agg #[.int .i8 X, .int .i8 Y, .slice (some ⟨g, 0, none⟩) n n], .slice (some ⟨bo, 0, none⟩) 2 2] w (JlPost X Y n c na nb ca cb a0 a1 a3 w) := by
  have HC := Lib.hid hc
  have HCA := Lib.hid hca
  have HCB := Lib.hid hcb
  clear hc hca hcb
  have X2 := Sq.new w X Y (.slice (some ⟨g, 0, none⟩) n n) 33
  have B := al (Below.refl w.heap.size w) (.cells #[.int .i8 X, .int .i8 Y, .slice (some ⟨g, 0, none⟩) n n] 33)
  obtain ⟨W0, hW0⟩ : ∃ W0 : World, W0 = w.alloc (.cells #[.int .i8 X, .int .i8 Y, .slice (some ⟨g, 0, none⟩) n n] 33) := ⟨_, rfl⟩
  rw [← hW0] at X2 B
  have HV0 := Lib.hid hv0
  have HV1 := Lib.hid hv1
  clear hv0 hv1
  go_enter Tryd.func44, Tryd.ntmps44
  go_wp2_with fail
  rw [← hW0]
  clear hW0
  obtain ⟨l2, p2, q2, r2⟩ := id X2
  refine wp_region_held_drew (S := fun w' => w'.cell? ⟨w.heap.size, 0, none⟩ = some (.int .i8 X) ∧ w'.cell? ⟨w.heap.size, 1, none⟩ = some (.int .i8 Y) ∧ w'.cell? ⟨w.heap.size, 2, none⟩ = some (.slice (some ⟨g, 0, none⟩) n n)) (by kernel_rfl) ⟨p2, q2, r2⟩ (fun hHeld => ?_)
  refine wpAnyH_take (i := 0) (oi := _) (v := ?_) rfl (by kernel_rfl) (by kernel_rfl) (by kernel_rfl) (fun _ _ _ h => h) (Or.inl ⟨by kernel_rfl, ?_⟩) (by assumption) ?_
  rotate_left
  · intro w hSw; (try dsimp only at hSw); go_simp; first | done | with_reducible rfl
  try simp only [List.getElem_toArray, List.getElem_cons_zero, List.getElem_cons_succ, Act.put, List.setIfInBounds_toArray, List.set_cons_zero, List.set_cons_succ]
  refine wpAnyH_take (i := 1) (oi := _) (v := ?_) rfl (by kernel_rfl) (by kernel_rfl) (by kernel_rfl) (fun _ _ _ h => h) (Or.inl ⟨by kernel_rfl, ?_⟩) (by assumption) ?_
  rotate_left
  · intro w hSw; (try dsimp only at hSw); go_simp; first | done | with_reducible rfl
  try simp only [List.getElem_toArray, List.getElem_cons_zero, List.getElem_cons_succ, Act.put, List.setIfInBounds_toArray, List.set_cons_zero, List.set_cons_succ]
  refine wpAnyH_ready (rs := [2]) (by kernel_rfl) (by simp) ?_
  refine AllReadyH.cons (o := _) rfl (fun K hK => ?_) AllReadyH.nil
  go_simp
  refine (concatP bo na nb na nb ga gb ca cb W0.drew (Nat.lt_of_lt_of_le hbo B.size) (cell_below HV0.out B.drew) (cell_below HV1.out B.drew) (by omega) (hA.below B.drew) (hB.below B.drew)).mono ?_
  rintro e w3 ⟨hb, v, rfl, O⟩
  replace X2 := Sq.below (w := W0.drew) X2 hb
  replace B := nxt B.drew hb
  clear hb p2 q2 r2 l2
  obtain ⟨l2, p2, q2, r2⟩ := id X2
  obtain ⟨A, cap, rfl, hcap⟩ := O.shape
  refine hK.out _ _ ⟨p2, q2, r2⟩ (fun hHeld => ?_)
  clear hK K
  try simp only [List.getElem_toArray, List.getElem_cons_zero, List.getElem_cons_succ, Act.put, List.setIfInBounds_toArray, List.set_cons_zero, List.set_cons_succ]
  refine wpAnyH_ready (rs := [3]) (by kernel_rfl) (by simp) ?_
  refine AllReadyH.cons (o := _) rfl (fun K hK => ?_) AllReadyH.nil
  go_simp
  refine ((jointsFor_any X Y g n c A (na + nb) cap (PX (ccP na ca cb)) (PY (ccP na ca cb)) a0 a1 a2 w3 hX hY HC.out hm (hrow.of_block (B.block _ hrow.lt)) (by omega) hcap O.rdP (fun j => ccP_8 HCA.out HCB.out _) (fun j => ccP_8 HCA.out HCB.out _) (hS.s.below B))).mono ?_
  rintro e w4 hp
  obtain ⟨hb, v1, v2, rfl, hcase⟩ := hp.two
  replace X2 := Sq.below X2 hb
  replace B := nxt B hb
  clear hb hp p2 q2 r2 l2
  obtain ⟨l2, p2, q2, r2⟩ := id X2
  refine hK.out _ _ ⟨p2, q2, r2⟩ (fun hHeld => ?_)
  clear hK K
  try simp only [List.getElem_toArray, List.getElem_cons_zero, List.getElem_cons_succ, Act.put, List.setIfInBounds_toArray, List.set_cons_zero, List.set_cons_succ]
  refine wpAnyH_take (i := 4) (oi := _) (v := ?_) rfl (by kernel_rfl) (by kernel_rfl) (by kernel_rfl) (fun _ _ _ h => h) (Or.inl ⟨by kernel_rfl, ?_⟩) (by assumption) ?_
  rotate_left
  · intro w hSw; (try dsimp only at hSw); go_simp; first | done | with_reducible rfl
  try simp only [List.getElem_toArray, List.getElem_cons_zero, List.getElem_cons_succ, Act.put, List.setIfInBounds_toArray, List.set_cons_zero, List.set_cons_succ]
  refine wpAnyH_take (i := 5) (oi := _) (v := ?_) rfl (by kernel_rfl) (by kernel_rfl) (by kernel_rfl) (fun _ _ _ h => h) (Or.inl ⟨by kernel_rfl, ?_⟩) (by assumption) ?_
  rotate_left
  · intro w hSw; (try dsimp only at hSw); go_simp; first | done | with_reducible rfl
  try simp only [List.getElem_toArray, List.getElem_cons_zero, List.getElem_cons_succ, Act.put, List.setIfInBounds_toArray, List.set_cons_zero, List.set_cons_succ]
  refine wpAnyH_take (i := 6) (oi := _) (v := ?_) rfl (by kernel_rfl) (by kernel_rfl) (by kernel_rfl) (fun _ _ _ h => h) (Or.inl ⟨by kernel_rfl, ?_⟩) (by assumption) ?_
  rotate_left
  · intro w hSw; (try dsimp only at hSw); go_simp; first | done | with_reducible rfl
  try simp only [List.getElem_toArray, List.getElem_cons_zero, List.getElem_cons_succ, Act.put, List.setIfInBounds_toArray, List.set_cons_zero, List.set_cons_succ]
  refine wpAnyH_take (i := 7) (oi := _) (v := ?_) rfl (by kernel_rfl) (by kernel_rfl) (by kernel_rfl) (fun _ _ _ h => h) (Or.inl ⟨by kernel_rfl, ?_⟩) (by assumption) ?_
  rotate_left
  · intro w hSw; (try dsimp only at hSw); go_simp; first | done | with_reducible rfl
  try simp only [List.getElem_toArray, List.getElem_cons_zero, List.getElem_cons_succ, Act.put, List.setIfInBounds_toArray, List.set_cons_zero, List.set_cons_succ]
  refine wpAnyH_take (i := 8) (oi := _) (v := ?_) rfl (by kernel_rfl) (by kernel_rfl) (by kernel_rfl) (fun _ _ _ h => h) (Or.inl ⟨by kernel_rfl, ?_⟩) (by assumption) ?_
  rotate_left
  · intro w hSw; (try dsimp only at hSw); go_simp; first | done | with_reducible rfl
  try simp only [List.getElem_toArray, List.getElem_cons_zero, List.getElem_cons_succ, Act.put, List.setIfInBounds_toArray, List.set_cons_zero, List.set_cons_succ]
  refine wpAnyH_done (by kernel_rfl) ?_ _
  clear l2 p2 q2 r2 X2 O
  rcases hcase with ⟨hv, rfl, rfl⟩ | ⟨hv, hn, rfl, rfl⟩ | ⟨hv, hy, m, rfl, rfl, hmw, hM⟩
  · have HV := Lib.hid hv
    clear hv
    go_wp2
    exact bodyPost_ret (results_tmp2 Tryd.results44 _ _ _) rfl ⟨B, _, _, rfl, .inl ⟨HV.out, rfl⟩⟩
  · have HV := Lib.hid hv
    have HN := Lib.hid hn
    clear hv hn
    go_wp2
    exact bodyPost_ret (results_tmp2 Tryd.results44 _ _ _) rfl ⟨B, _, _, rfl, .inr (.inl ⟨HV.out, HN.out, rfl⟩)⟩
  have HIN := Lib.hid (show MoIn X Y n c na nb ca cb from ⟨hv, hy⟩)
  obtain ⟨ra, era⟩ := dec_exB (Along (gridN c n) na (PX ca) (PY ca))
  obtain ⟨rb, erb⟩ := dec_exB (Along (gridN c n) nb (PX cb) (PY cb))
  obtain ⟨W, rfl⟩ : ∃ W : Nat, X = W := Int.eq_ofNat_of_zero_le (by have := hv.1; omega)
  obtain ⟨H, rfl⟩ : ∃ H : Nat, Y = H := Int.eq_ofNat_of_zero_le (by have := hv.2.2.1; omega)
  have hM' : EMap w4 m (jl W (gridN c n) (W * H)) := hM
  have hJL := fun ax ay bx by_ => jl_hasK hv ax ay bx by_
  have HA1 := Lib.hid (fun W' (hb : Below w4.heap.size w4 W') => isCrack_any m _ (some ⟨ga, 0, none⟩) na na (PX ca) (PY ca) (gridN c n) ra W' (by omega) (Nat.le_refl _) (hA.below (nxt B hb)).rdP (fun j => HCA.out _) (fun j => HCA.out _) (hM'.below hb hM'.lt) hJL era)
  have HB1 := Lib.hid (fun W' (hb : Below w4.heap.size w4 W') => isCrack_any m _ (some ⟨gb, 0, none⟩) nb nb (PX cb) (PY cb) (gridN c n) rb W' (by omega) (Nat.le_refl _) (hB.below (nxt B hb)).rdP (fun j => HCB.out _) (fun j => HCB.out _) (hM'.below hb hM'.lt) hJL erb)
  have ERA := Lib.hid era
  have ERB := Lib.hid erb
  clear hv hy hM hM' hJL era erb
  go_wp2_with fail
  go_loopw [9, 22] (fun t9 t22 wr => ∃ k : Nat, k ≤ 2 ∧ t22 = .int .i64 (k : Int) ∧ Below w.heap.size w wr ∧ Below w4.heap.size w4 wr ∧ (1 ≤ k → ra = true) ∧ (2 ≤ k → rb = true)) (fun t9 t22 wr => 2 - (intOf t22).toNat)
  case atStart => exact ⟨0, by omega, by simp, B, Below.refl _ _, fun h => by omega, fun h => by omega⟩
  case round =>
    clear B
    obtain ⟨k, hk, rfl, B, BB, h1, h2⟩ := hrel
    obtain ⟨wo, rfl⟩ : ∃ wo : World, wo = wr := ⟨_, rfl⟩
    have H1 := Lib.hid h1
    have H2 := Lib.hid h2
    clear h1 h2
    have hk3 : k = 0 ∨ k = 1 ∨ k = 2 := by omega
    rcases hk3 with rfl | rfl | rfl
    · have v0 := cell_below HV0.out B
      go_wp2_with fail
      refine (HA1.out wo BB).mono ?_
      rintro e w5 ⟨rfl, hb⟩
      replace B := nxt B hb
      replace BB := nxt BB hb
      clear hb v0
      cases ra with
      | true =>
        go_wp2
        exact ⟨⟨1, by omega, by first | go_num | simp, B, BB, fun _ => by trivial, fun h => by omega⟩, by simp [intOf]⟩
      | false =>
        have c3 := (hS.below B).c3
        go_wp2_with fail
        go_quiet (fail)
        go_wp2
        exact bodyPost_ret (results_tmp2 Tryd.results44 _ _ _) rfl ⟨below_drewN' B _, _, _, rfl, .inr (.inr (.inl ⟨HIN.out, fun h => absurd (ERA.out.2 h.1) (by decide), rfl⟩))⟩
    · have v1 := cell_below HV1.out B
      go_wp2_with fail
      refine (HB1.out wo BB).mono ?_
      rintro e w5 ⟨rfl, hb⟩
      replace B := nxt B hb
      replace BB := nxt BB hb
      clear hb v1
      cases rb with
      | true =>
        go_wp2
        exact ⟨⟨2, by omega, by first | go_num | simp, B, BB, fun _ => H1.out (by omega), fun _ => by trivial⟩, by simp [intOf]⟩
      | false =>
        have c3 := (hS.below B).c3
        go_wp2_with fail
        go_quiet (fail)
        go_wp2
        exact bodyPost_ret (results_tmp2 Tryd.results44 _ _ _) rfl ⟨below_drewN' B _, _, _, rfl, .inr (.inr (.inl ⟨HIN.out, fun h => absurd (ERB.out.2 h.2) (by decide), rfl⟩))⟩
    · go_wp2
      exact bodyPost_ret (results_tmp2 Tryd.results44 _ _ _) rfl ⟨B, _, _, rfl, .inr (.inr (.inr ⟨⟨HIN.out, ERA.out.1 (H1.out (by omega)), ERB.out.1 (H2.out (by omega))⟩, rfl⟩))⟩
theorem implMo_any (X Y : Int) (g ga gb n na nb : Nat) (c ca cb : Nat → Int) (a0 a1 a2 a3 : Addr) (w : World) (hX : -128 ≤ X ∧ X ≤ 127) (hY : -128 ≤ Y ∧ Y ≤ 127) (hc : ∀ j, -128 ≤ c j ∧ c j ≤ 127) (hca : ∀ j, -128 ≤ ca j ∧ ca j ≤ 127) (hcb : ∀ j, -128 ≤ cb j ∧ cb j ≤ 127) (hm : n ≤ 1048576) (hna : na ≤ 1048576) (hnb : nb ≤ 1048576)
    (hrow : w.rowIs g 105 (4 * n) (fun j => .int .i8 (c j))) (hA : Ac w ga na ca) (hB : Ac w gb nb cb) (hS : Sent4 w a0 a1 a2 a3) :
    Calls Tryd.prog 25 #[.agg #[.int .i8 X, .int .i8 Y, .slice (some ⟨g, 0, none⟩) n n], .slice (some ⟨ga, 0, none⟩) na na, .slice (some ⟨gb, 0, none⟩) nb nb] w (MoPost X Y n c na nb ca cb w) := by
  have HC := Lib.hid hc
  have HCA := Lib.hid hca
  have HCB := Lib.hid hcb
  clear hc hca hcb
  have X6 := (Bx.new (w.alloc (.cells #[.int .i8 X, .int .i8 Y, .slice (some ⟨g, 0, none⟩) n n] 33)) #[.int .i8 0, .int .i8 0] 35).alloc (.cells #[.slice (some ⟨ga, 0, none⟩) na na, .slice (some ⟨gb, 0, none⟩) nb nb] 53)
  have X19 := Bx.new ((w.alloc (.cells #[.int .i8 X, .int .i8 Y, .slice (some ⟨g, 0, none⟩) n n] 33)).alloc (.cells #[.int .i8 0, .int .i8 0] 35)) #[.slice (some ⟨ga, 0, none⟩) na na, .slice (some ⟨gb, 0, none⟩) nb nb] 53
  have B := al (al (al (Below.refl w.heap.size w) (.cells #[.int .i8 X, .int .i8 Y, .slice (some ⟨g, 0, none⟩) n n] 33)) (.cells #[.int .i8 0, .int .i8 0] 35)) (.cells #[.slice (some ⟨ga, 0, none⟩) na na, .slice (some ⟨gb, 0, none⟩) nb nb] 53)
  have e1 : (w.alloc (.cells #[.int .i8 X, .int .i8 Y, .slice (some ⟨g, 0, none⟩) n n] 33)).heap.size = w.heap.size + 1 := by simp
  have e2 : ((w.alloc (.cells #[.int .i8 X, .int .i8 Y, .slice (some ⟨g, 0, none⟩) n n] 33)).alloc (.cells #[.int .i8 0, .int .i8 0] 35)).heap.size = w.heap.size + 1 + 1 := by simp
  rw [e1] at X6
  rw [e2] at X19
  obtain ⟨W0, hW0⟩ : ∃ W0 : World, W0 = ((w.alloc (.cells #[.int .i8 X, .int .i8 Y, .slice (some ⟨g, 0, none⟩) n n] 33)).alloc (.cells #[.int .i8 0, .int .i8 0] 35)).alloc (.cells #[.slice (some ⟨ga, 0, none⟩) na na, .slice (some ⟨gb, 0, none⟩) nb nb] 53) := ⟨_, rfl⟩
  rw [← hW0] at X6 X19 B
  clear e1 e2
  go_enter Tryd.func25, Tryd.ntmps25
  go_wp2_with fail
  rw [← hW0]
  clear hW0
  refine (jointsAlong_any X Y g ga gb (w.heap.size + 1 + 1) n na nb c ca cb a0 a1 a2 a3 W0 hX hY HC.out HCA.out HCB.out hm hna hnb (hrow.of_block (B.block _ hrow.lt)) (hA.below B) (hB.below B) X19.lt (X19.cell 0) (X19.cell 1) (hS.below B)).mono ?_
  rintro e w2 ⟨hb, v1, v2, rfl, hcase⟩
  replace X6 := X6.below hb
  replace B := nxt B hb
  have S2 := hS.below B
  clear hb X19
  rcases hcase with ⟨hv, rfl⟩ | ⟨hv, hn, rfl⟩ | ⟨hv, hn, rfl⟩ | ⟨hok, rfl⟩
  · have HV := Lib.hid hv
    clear hv
    go_wp2_with fail
    refine (codeOf0 a0 a1 a2 w2 S2.s).mono ?_
    rintro e w3 ⟨rfl, hb⟩
    replace B := nxt B hb
    replace X6 := X6.below hb
    clear hb
    have f60 := X6.frozen 0
    have f61 := X6.frozen 1
    have s60 := X6.cell 0
    have s61 := X6.cell 1
    simp only [List.getElem?_toArray, List.getElem?_cons_zero, List.getElem?_cons_succ] at s60 s61
    go_wp2
    have Y6 := (X6.set 0 (.int .i8 0)).set 1 (.int .i8 0)
    have q60 := Y6.cell 0
    have q61 := Y6.cell 1
    simp at q60 q61
    exact bodyPost_ret (v := .tuple #[.agg #[.int .i8 0, .int .i8 0], .int .i64 1]) (by simp [results, Tryd.results25, go_sem, q60, q61]) rfl ⟨((B.setCell (p := ⟨w.heap.size + 1, 0, none⟩) (by simp) (.int .i8 0)).setCell (p := ⟨w.heap.size + 1, 1, none⟩) (by simp) (.int .i8 0)), .inl ⟨HV.out, rfl⟩⟩
  · have HV := Lib.hid hv
    have HN := Lib.hid hn
    clear hv hn
    go_wp2_with fail
    refine (codeOf1 a0 a1 a2 w2 S2.s).mono ?_
    rintro e w3 ⟨rfl, hb⟩
    replace B := nxt B hb
    replace X6 := X6.below hb
    clear hb
    have f60 := X6.frozen 0
    have f61 := X6.frozen 1
    have s60 := X6.cell 0
    have s61 := X6.cell 1
    simp only [List.getElem?_toArray, List.getElem?_cons_zero, List.getElem?_cons_succ] at s60 s61
    go_wp2
    have Y6 := (X6.set 0 (.int .i8 0)).set 1 (.int .i8 0)
    have q60 := Y6.cell 0
    have q61 := Y6.cell 1
    simp at q60 q61
    exact bodyPost_ret (v := .tuple #[.agg #[.int .i8 0, .int .i8 0], .int .i64 2]) (by simp [results, Tryd.results25, go_sem, q60, q61]) rfl ⟨((B.setCell (p := ⟨w.heap.size + 1, 0, none⟩) (by simp) (.int .i8 0)).setCell (p := ⟨w.heap.size + 1, 1, none⟩) (by simp) (.int .i8 0)), .inr (.inl ⟨HV.out, HN.out, rfl⟩)⟩
  · have HV := Lib.hid hv
    have HN := Lib.hid hn
    clear hv hn
    go_wp2_with fail
    refine (codeOf3 a0 a1 a2 a3 w2 S2.s S2.h3 S2.n03 S2.n13 S2.n23).mono ?_
    rintro e w3 ⟨rfl, hb⟩
    replace B := nxt B hb
    replace X6 := X6.below hb
    clear hb
    have f60 := X6.frozen 0
    have f61 := X6.frozen 1
    have s60 := X6.cell 0
    have s61 := X6.cell 1
    simp only [List.getElem?_toArray, List.getElem?_cons_zero, List.getElem?_cons_succ] at s60 s61
    go_wp2
    have Y6 := (X6.set 0 (.int .i8 0)).set 1 (.int .i8 0)
    have q60 := Y6.cell 0
    have q61 := Y6.cell 1
    simp at q60 q61
    exact bodyPost_ret (v := .tuple #[.agg #[.int .i8 0, .int .i8 0], .int .i64 4]) (by simp [results, Tryd.results25, go_sem, q60, q61]) rfl ⟨((B.setCell (p := ⟨w.heap.size + 1, 0, none⟩) (by simp) (.int .i8 0)).setCell (p := ⟨w.heap.size + 1, 1, none⟩) (by simp) (.int .i8 0)), .inr (.inr (.inl ⟨HV.out, HN.out, rfl⟩))⟩
  have HOK := Lib.hid hok
  clear hok
  have hmm := run_makeMap (P := Tryd.prog) 87 w2
  have M := PSet.new w2 cb
  have hl6 := X6.lt
  replace X6 := X6.alloc (.map #[] 0)
  replace B := al B (.map #[] 0)
  obtain ⟨m, hm0⟩ : ∃ m, m = w2.heap.size := ⟨_, rfl⟩
  obtain ⟨W5, hW5⟩ : ∃ W5 : World, W5 = w2.alloc (.map #[] 0) := ⟨_, rfl⟩
  rw [← hW5, ← hm0] at hmm M
  rw [← hW5] at X6 B
  rw [← hm0] at hl6
  have hwm : w.heap.size ≤ m := by omega
  clear hW5 hm0
  go_wp2_with fail
  go_loopw [12, 31] (fun t12 t31 wr => ∃ k : Nat, k ≤ nb ∧ t31 = .int .i64 (k : Int) ∧ Below w.heap.size w wr ∧ Bx wr (w.heap.size + 1) #[.int .i8 0, .int .i8 0] 35 ∧ PSet wr m k cb) (fun t12 t31 wr => nb - (intOf t31).toNat)
  case atStart => exact ⟨0, by omega, by simp, B, X6, M⟩
  case round =>
    clear B X6 M
    obtain ⟨k, hk, rfl, B, X6, M⟩ := hrel
    obtain ⟨wo, rfl⟩ : ∃ wo : World, wo = wr := ⟨_, rfl⟩
    by_cases hlt : k < nb
    · have hli : (k : Int) < (nb : Int) := by omega
      obtain ⟨cx, cy⟩ : wo.cell? ⟨gb, k * 2, none⟩ = some (.int .i8 (PX cb k)) ∧ wo.cell? ⟨gb, k * 2 + 1, none⟩ = some (.int .i8 (PY cb k)) := by
        obtain ⟨b', off, e', hbl, hcl⟩ := (hB.below B).rdP (by omega)
        simp at e'
        obtain ⟨rfl, rfl⟩ := e'
        have := hcl k hlt
        simpa using this
      obtain ⟨W', hrun, M', ht⟩ := (M.alloc (.cells #[.int .i8 (PX cb k), .int .i8 (PY cb k)] 35)).store (by unfold maxLen; omega) (HCB.out _) (HCB.out _)
      have hlm := M.lt
      have B1 := al B (.cells #[.int .i8 (PX cb k), .int .i8 (PY cb k)] 35)
      have X61 := X6.alloc (.cells #[.int .i8 (PX cb k), .int .i8 (PY cb k)] 35)
      have hgr := ht.grown
      have B2 : Below w.heap.size w W' := B1.grown hgr B1.size (fun k' e => by injection e with e; omega)
      have X62 : Bx W' (w.heap.size + 1) #[.int .i8 0, .int .i8 0] 35 := X61.of_block (hgr.block _ X61.lt (fun e => by injection e with e; omega))
      obtain ⟨x, hx⟩ : ∃ x, PX cb k = x := ⟨_, rfl⟩
      obtain ⟨y, hy⟩ : ∃ y, PY cb k = y := ⟨_, rfl⟩
      rw [hx] at cx hrun
      rw [hy] at cy hrun
      clear hgr ht B1 X61 M B X6 hx hy
      go_wp2_with fail
      exact ⟨⟨k + 1, by omega, by first | go_num | simp, B2, X62, M'⟩, by simp [intOf]; omega⟩
    · obtain rfl : k = nb := by omega
      go_wp2_with fail
      go_loopw [14, 40] (fun t14 t40 wr => ∃ i : Nat, i ≤ na ∧ t40 = .int .i64 (i : Int) ∧ Below w.heap.size w wr ∧ Bx wr (w.heap.size + 1) #[.int .i8 0, .int .i8 0] 35 ∧ PSet wr m k cb ∧ (∀ j, j < i → ¬ HasPt k (PX cb) (PY cb) (PX ca j) (PY ca j))) (fun t14 t40 wr => na - (intOf t40).toNat)
      case atStart => exact ⟨0, by omega, by simp, B, X6, M, fun j hj => by omega⟩
      case round =>
        clear B X6 M
        obtain ⟨i, hi, rfl, B, X6, M, hno⟩ := hrel
        obtain ⟨wo, rfl⟩ : ∃ wo : World, wo = wr := ⟨_, rfl⟩
        have HNO := Lib.hid hno
        clear hno
        by_cases hlt : i < na
        · have hli : (i : Int) < (na : Int) := by omega
          obtain ⟨cx, cy⟩ : wo.cell? ⟨ga, i * 2, none⟩ = some (.int .i8 (PX ca i)) ∧ wo.cell? ⟨ga, i * 2 + 1, none⟩ = some (.int .i8 (PY ca i)) := by
            obtain ⟨b', off, e', hbl, hcl⟩ := (hA.below B).rdP (by omega)
            simp at e'
            obtain ⟨rfl, rfl⟩ := e'
            have := hcl i hlt
            simpa using this
          obtain ⟨r, er⟩ := dec_exB (HasPt k (PX cb) (PY cb) (PX ca i) (PY ca i))
          have hrun := (M.alloc (.cells #[.int .i8 (PX ca i), .int .i8 (PY ca i)] 35)).look (a := PX ca i) (b := PY ca i) HCB.out (HCA.out _) (HCA.out _) er
          obtain ⟨x, hx⟩ : ∃ x, PX ca i = x := ⟨_, rfl⟩
          obtain ⟨y, hy⟩ : ∃ y, PY ca i = y := ⟨_, rfl⟩
          rw [hx] at cx
          rw [hy] at cy
          rw [hx, hy] at hrun er
          have HXY := Lib.hid (And.intro hx hy)
          have ER := Lib.hid er
          have B1 := al B (.cells #[.int .i8 x, .int .i8 y] 35)
          have X61 := X6.alloc (.cells #[.int .i8 x, .int .i8 y] 35)
          have M1 := M.alloc (.cells #[.int .i8 x, .int .i8 y] 35)
          have X14 := Bx.new wo #[.int .i8 x, .int .i8 y] 35
          clear B X6 M hx hy er
          obtain ⟨B, X6⟩ := And.intro B1 X61
          clear B1 X61
          cases r with
          | true =>
            have f60 := X6.frozen 0
            have f61 := X6.frozen 1
            have s60 := X6.cell 0
            have s61 := X6.cell 1
            simp only [List.getElem?_toArray, List.getElem?_cons_zero, List.getElem?_cons_succ] at s60 s61
            go_wp2
            have Y6 := (X6.set 0 (.int .i8 x)).set 1 (.int .i8 y)
            have q60 := Y6.cell 0
            have q61 := Y6.cell 1
            simp at q60 q61
            exact bodyPost_ret (v := .tuple #[.agg #[.int .i8 x, .int .i8 y], .int .i64 0]) (by simp [results, Tryd.results25, go_sem, q60, q61]) rfl ⟨((B.setCell (p := ⟨w.heap.size + 1, 0, none⟩) (by simp) (.int .i8 x)).setCell (p := ⟨w.heap.size + 1, 1, none⟩) (by simp) (.int .i8 y)), .inr (.inr (.inr ⟨HOK.out, .inl ⟨i, hlt, by rw [HXY.out.1, HXY.out.2]; exact ER.out.1 (by trivial), HNO.out, by rw [HXY.out.1, HXY.out.2]⟩⟩))⟩
          | false =>
            go_wp2_with fail
            refine ⟨⟨i + 1, by omega, by first | go_num | simp, B, X6, M1, fun j hj => ?_⟩, by simp [intOf]; omega⟩
            by_cases e : j = i
            · subst e
              rw [HXY.out.1, HXY.out.2]
              intro h
              exact absurd (ER.out.2 h) (by decide)
            · exact HNO.out j (by omega)
        · obtain rfl : i = na := by omega
          have f60 := X6.frozen 0
          have f61 := X6.frozen 1
          have s60 := X6.cell 0
          have s61 := X6.cell 1
          simp only [List.getElem?_toArray, List.getElem?_cons_zero, List.getElem?_cons_succ] at s60 s61
          go_wp2
          have Y6 := (X6.set 0 (.int .i8 0)).set 1 (.int .i8 0)
          have q60 := Y6.cell 0
          have q61 := Y6.cell 1
          simp at q60 q61
          exact bodyPost_ret (v := .tuple #[.agg #[.int .i8 0, .int .i8 0], .int .i64 6]) (by simp [results, Tryd.results25, go_sem, q60, q61]) rfl ⟨((B.setCell (p := ⟨w.heap.size + 1, 0, none⟩) (by simp) (.int .i8 0)).setCell (p := ⟨w.heap.size + 1, 1, none⟩) (by simp) (.int .i8 0)), .inr (.inr (.inr ⟨HOK.out, .inr ⟨HNO.out, rfl⟩⟩))⟩
end Go.Proofs.YtmkcdelfgaogaaaDoor

namespace Go.Proofs.YtmkcdelfgaogaaaDoor.meetOf
open Go Go.ChangeShapes Go.WideShapes Go.ChangeAt Go.RowKit
set_option linter.unusedVariables false
set_option linter.unusedSimpArgs false
set_option maxRecDepth 100000
set_option maxHeartbeats 4000000

theorem first_meet (na nb : Nat) (ca cb : Nat → Int) : (∃ i, i < na ∧ HasPt nb (PX cb) (PY cb) (PX ca i) (PY ca i) ∧ ∀ j, j < i → ¬ HasPt nb (PX cb) (PY cb) (PX ca j) (PY ca j)) ∨ ∀ j, j < na → ¬ HasPt nb (PX cb) (PY cb) (PX ca j) (PY ca j) := by
  by_cases h : ∃ i, i < na ∧ HasPt nb (PX cb) (PY cb) (PX ca i) (PY ca i)
  · left
    have : ∀ m, m < na → HasPt nb (PX cb) (PY cb) (PX ca m) (PY ca m) → ∃ i, i < na ∧ HasPt nb (PX cb) (PY cb) (PX ca i) (PY ca i) ∧ ∀ j, j < i → ¬ HasPt nb (PX cb) (PY cb) (PX ca j) (PY ca j) := by
      intro m
      induction m using Nat.strongRecOn with
      | _ m ih =>
        intro hm hp
        by_cases h2 : ∃ j, j < m ∧ HasPt nb (PX cb) (PY cb) (PX ca j) (PY ca j)
        · obtain ⟨j, hj, hpj⟩ := h2
          exact ih j hj (by omega) hpj
        · exact ⟨m, hm, hp, fun j hj hh => h2 ⟨j, hj, hh⟩⟩
    obtain ⟨i, hi, hp⟩ := h
    exact this i hi hp
  · right
    exact fun j hj hh => h ⟨j, hj, hh⟩
theorem both (X Y : Int) (n : Nat) (c : Nat → Int) (na : Nat) (ca : Nat → Int) (nb : Nat) (cb : Nat → Int) (a0 a1 a2 a3 : Addr) (w : World) (hX : -128 ≤ X ∧ X ≤ 127) (hY : -128 ≤ Y ∧ Y ≤ 127) (hc : ∀ j, -128 ≤ c j ∧ c j ≤ 127) (hm : n ≤ 1048576) (hca : ∀ j, -128 ≤ ca j ∧ ca j ≤ 127) (hna : na ≤ 1048576) (hcb : ∀ j, -128 ≤ cb j ∧ cb j ≤ 127) (hnb : nb ≤ 1048576) (hE : Sent4 w a0 a1 a2 a3) :
    ∃ (p0 q0 z1 : Int),
      (∀ (W : World) (G0 G1 G2 : Nat), Below w.heap.size w W → Ab W G0 n c → Ac W G1 na ca → Ac W G2 nb cb → Calls Tryd.prog 23 #[.agg #[.int .i8 X, .int .i8 Y, .slice (some ⟨G0, 0, none⟩) n n], .slice (some ⟨G1, 0, none⟩) na na, .slice (some ⟨G2, 0, none⟩) nb nb] W fun e w' => Below W.heap.size W w' ∧ e = .returned (.tuple #[.agg #[.int .i8 p0, .int .i8 q0], .int .i64 z1])) ∧
      (∀ (W : World) (G0 G1 G2 : Nat), Below w.heap.size w W → Ab W G0 n c → Ac W G1 na ca → Ac W G2 nb cb → Calls Tryd.prog 25 #[.agg #[.int .i8 X, .int .i8 Y, .slice (some ⟨G0, 0, none⟩) n n], .slice (some ⟨G1, 0, none⟩) na na, .slice (some ⟨G2, 0, none⟩) nb nb] W fun e w' => Below W.heap.size W w' ∧ e = .returned (.tuple #[.agg #[.int .i8 p0, .int .i8 q0], .int .i64 z1])) := by
  have one : ∃ (p0 q0 z1 : Int), ∀ W e w', MoPost X Y n c na nb ca cb W e w' → Below W.heap.size W w' ∧ e = .returned (.tuple #[.agg #[.int .i8 p0, .int .i8 q0], .int .i64 z1]) := by
    by_cases hv : Valid X Y n c
    · by_cases hp : AllIn X Y (na + nb) (PX (ccP na ca cb)) (PY (ccP na ca cb))
      · by_cases ha : Along (gridN c n) na (PX ca) (PY ca) ∧ Along (gridN c n) nb (PX cb) (PY cb)
        · rcases first_meet na nb ca cb with ⟨i, hi, h1, h2⟩ | h1
          · refine ⟨PX ca i, PY ca i, 0, fun W e w' h => ⟨h.1, ?_⟩⟩
            rcases h.2 with ⟨x, _⟩ | ⟨_, x, _⟩ | ⟨_, x, _⟩ | ⟨_, ⟨j, hj, g1, g2, g3⟩ | ⟨g1, _⟩⟩
            · exact absurd hv x
            · exact absurd hp x
            · exact absurd ha x
            · obtain rfl : j = i := by
                rcases Nat.lt_trichotomy i j with h3 | h3 | h3
                · exact absurd h1 (g2 i h3)
                · exact h3.symm
                · exact absurd g1 (h2 j h3)
              exact g3
            · exact absurd h1 (g1 i hi)
          · refine ⟨0, 0, 6, fun W e w' h => ⟨h.1, ?_⟩⟩
            rcases h.2 with ⟨x, _⟩ | ⟨_, x, _⟩ | ⟨_, x, _⟩ | ⟨_, ⟨j, hj, g1, g2, g3⟩ | ⟨_, g1⟩⟩
            · exact absurd hv x
            · exact absurd hp x
            · exact absurd ha x
            · exact absurd g1 (h1 j hj)
            · exact g1
        · refine ⟨0, 0, 4, fun W e w' h => ⟨h.1, ?_⟩⟩
          rcases h.2 with ⟨x, _⟩ | ⟨_, x, _⟩ | ⟨_, _, x⟩ | ⟨x, _⟩
          · exact absurd hv x
          · exact absurd hp x
          · exact x
          · exact absurd x.2 ha
      · refine ⟨0, 0, 2, fun W e w' h => ⟨h.1, ?_⟩⟩
        rcases h.2 with ⟨x, _⟩ | ⟨_, _, x⟩ | ⟨x, _⟩ | ⟨x, _⟩
        · exact absurd hv x
        · exact x
        · exact absurd x.2 hp
        · exact absurd x.1.2 hp
    · refine ⟨0, 0, 1, fun W e w' h => ⟨h.1, ?_⟩⟩
      rcases h.2 with ⟨_, x⟩ | ⟨x, _⟩ | ⟨x, _⟩ | ⟨x, _⟩
      · exact x
      · exact absurd x hv
      · exact absurd x.1 hv
      · exact absurd x.1.1 hv
  obtain ⟨p0, q0, z1, h⟩ := one
  exact ⟨p0, q0, z1, fun W g ga gb hb R RA RB => (specMo_any X Y g ga gb n na nb c ca cb W hX hY hc hca hcb hm hna hnb R.row RA RB).mono fun e w' hp => h W e w' hp,
    fun W g ga gb hb R RA RB => (implMo_any X Y g ga gb n na nb c ca cb a0 a1 a2 a3 W hX hY hc hca hcb hm hna hnb R.row RA RB (hE.below hb)).mono fun e w' hp => h W e w' hp⟩
end Go.Proofs.YtmkcdelfgaogaaaDoor.meetOf
