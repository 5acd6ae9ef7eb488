/-
  The frame of the laws whose rows list the package's errors: what the listing gives a walk, and a world that meets it. Conditions stand at each.
-/
import Derived.Test.YtmkcdelfgaogaaaDoorRows
import Derived.Test.YtmkcdelfgaogaaaDoorBase
import Derived.Test.YtmkcdelfgaogaaaDoorSentM
import Derived.Test.YtmkcdelfgaogaaaDoorJoAll
import Derived.ChangeSame
import Derived.ChangeVars
import Derived.JoinedOf
import Derived.RowKit
import Derived.RowKitTokens
import Derived.LaidLaws
import Derived.LaidHandle
import Derived.Stop.Joined
import Derived.Stop.ErrReads
namespace Go.Proofs.YtmkcdelfgaogaaaDoor
open Go Go.ChangeShapes Go.WideShapes Go.ChangeAt Go.RowKit
set_option linter.unusedVariables false
set_option maxRecDepth 100000
theorem var_below {P : Program} {W W' : World} {n : String} {cs : Array Value} (h : W.var? P n = some cs) (hb : Below W.heap.size W W') : W'.var? P n = some cs := by
  unfold World.var? at h ⊢
  cases hg : P.globalNamed n with
  | none => simp [hg] at h
  | some g =>
    simp only [hg, Option.bind_some] at h ⊢
    have hlt : g < W.heap.size := by
      rcases Nat.lt_or_ge g W.heap.size with h' | h'
      · exact h'
      · simp [Array.getElem?_eq_none h'] at h
    rw [hb.block g hlt]
    exact h
theorem gl_errNotValid : Tryd.prog.globalNamed "loop.example/g01383/impl.errNotValid" = some 0 := by kernel_rfl
theorem gt_errNotValid : (Tryd.prog.globals[0]?).map (·.type) = some 74 := by kernel_rfl
theorem gl_errBeyond : Tryd.prog.globalNamed "loop.example/g01383/impl.errBeyond" = some 1 := by kernel_rfl
theorem gt_errBeyond : (Tryd.prog.globals[1]?).map (·.type) = some 74 := by kernel_rfl
theorem gl_errTooMany : Tryd.prog.globalNamed "loop.example/g01383/impl.errTooMany" = some 2 := by kernel_rfl
theorem gt_errTooMany : (Tryd.prog.globals[2]?).map (·.type) = some 74 := by kernel_rfl
theorem gl_errNoJoint : Tryd.prog.globalNamed "loop.example/g01383/impl.errNoJoint" = some 3 := by kernel_rfl
theorem gt_errNoJoint : (Tryd.prog.globals[3]?).map (·.type) = some 74 := by kernel_rfl
theorem starErr : "*" ++ "errors.errorString" = "*errors.errorString" := by decide
theorem rowErr (u : TypeId) (h : Tryd.prog.typeName? 3 u = some "*errors.errorString") : u = 165 :=
  typeName_ptr_named (nm := "errors.errorString") (by rw [starErr]; kernel_rfl) (by kernel_rfl) (by decide) u (by rw [starErr]; exact h)
/-- the text of an error. -/
def textOf : DataW Unit → ByteArray
  | .iface _ (.ptr (.agg [.lit (.string bs)])) => ⟨bs.toArray⟩
  | _ => default
/-- the four errors. -/
structure Sent4 (W : World) (a0 a1 a2 a3 : Addr) : Prop where
  s : Sent W a0 a1 a2
  c3 : W.cell? ⟨3, 0, none⟩ = some (.iface 165 (.pointer (some a3)))
  h3 : ∃ c t, W.heap[a3.block]? = some (.cells c t (0, 0))
  n03 : a0 ≠ a3
  n13 : a1 ≠ a3
  n23 : a2 ≠ a3
theorem Sent4.below {W W' : World} {a0 a1 a2 a3 : Addr} (h : Sent4 W a0 a1 a2 a3) (hb : Below W.heap.size W W') : Sent4 W' a0 a1 a2 a3 :=
  ⟨h.s.below hb, cell_below h.c3 hb, row_below h.h3 hb, h.n03, h.n13, h.n23⟩

/-- what the rows list of the package's 3 errors. -/
abbrev laidSents3 : List (String × DataW Unit) := [("loop.example/g01383/impl.errNotValid", Rows.laid_loop_example_g01383_impl_errNotValid), ("loop.example/g01383/impl.errBeyond", Rows.laid_loop_example_g01383_impl_errBeyond), ("loop.example/g01383/impl.errTooMany", Rows.laid_loop_example_g01383_impl_errTooMany)]
/-- the variables hold their pointers. -/
structure Vr3 (W : World) (a0 a1 a2 : Addr) : Prop where
  v0 : W.var? Tryd.prog "loop.example/g01383/impl.errNotValid" = some #[.iface 165 (.pointer (some a0))]
  v1 : W.var? Tryd.prog "loop.example/g01383/impl.errBeyond" = some #[.iface 165 (.pointer (some a1))]
  v2 : W.var? Tryd.prog "loop.example/g01383/impl.errTooMany" = some #[.iface 165 (.pointer (some a2))]
theorem Vr3.below {W W' : World} {a0 a1 a2 : Addr} (h : Vr3 W a0 a1 a2) (hb : Below W.heap.size W W') : Vr3 W' a0 a1 a2 := ⟨var_below h.v0 hb, var_below h.v1 hb, var_below h.v2 hb⟩
theorem sents3_of_laid {W : World} (h : laidMetH Tryd.prog laidSents3 W) : ∃ a0 a1 a2, Sent W a0 a1 a2 ∧ Vr3 W a0 a1 a2 := by
  have h' : laidMet Tryd.prog laidSents3 W := h
  obtain ⟨a0, a1, a2, hv0, hv1, hv2, hb0, hb1, hb2, n01, n02, n12⟩ := laid_sentinels3 (P := Tryd.prog) (r := []) (ti := 74) (tp := 165) (te := 191) (ts := 9) h' gl_errNotValid gt_errNotValid gl_errBeyond gt_errBeyond gl_errTooMany gt_errTooMany Tryd.underlying74 rowErr Tryd.underlying165 Tryd.underlying191 rfl rfl Tryd.underlying9 (by kernel_rfl) (by kernel_rfl)
  exact ⟨a0, a1, a2, ⟨by simpa using World.var?_cell gl_errNotValid hv0 0, by simpa using World.var?_cell gl_errBeyond hv1 0, by simpa using World.var?_cell gl_errTooMany hv2 0, hb0, hb1, hb2, n01, n02, n12⟩, hv0, hv1, hv2⟩
/-- a world that meets the condition. -/
noncomputable def laidWorldS3 (os : Os) : World :=
  let low := (World.holding Tryd.prog default ⟨#[], #[], []⟩).heap.size
  let w0 := World.holding Tryd.prog os ⟨#[.cells #[.string (textOf Rows.laid_loop_example_g01383_impl_errNotValid)] 191, .cells #[.string (textOf Rows.laid_loop_example_g01383_impl_errBeyond)] 191, .cells #[.string (textOf Rows.laid_loop_example_g01383_impl_errTooMany)] 191], #[], []⟩
  let put (h : Array Obj) (g k : Nat) : Array Obj := h.modify g fun
    | .cells _ t frozen => .cells #[.iface 165 (.pointer (some ⟨low + k, 0, none⟩))] t frozen
    | o => o
  { w0 with heap := (put (put (put w0.heap 0 0) 1 1) 2 2) }
theorem laidWorldS3_met (os : Os) (args : Array Value) : laidMetH Tryd.prog laidSents3 ((laidWorldS3 os).forCall (fun _ _ => 0) ⟨#[], args, []⟩).memory := by
  show laidMet Tryd.prog laidSents3 _
  exact laidMet_of_run' 8 (by kernel_rfl) (by kernel_rfl)
theorem vars123 {H : Type} (enc : TypeId × Value → H) {W : World} {a0 a1 a2 : Addr} (h : Vr3 W a0 a1 a2) (sp : Nat → Bool) :
    DataW.TrodVars enc Tryd.prog W sp ["loop.example/g01383/impl.errNotValid", "loop.example/g01383/impl.errBeyond", "loop.example/g01383/impl.errTooMany"] [tok enc (.iface 165 (.pointer (some a0))), tok enc (.iface 165 (.pointer (some a1))), tok enc (.iface 165 (.pointer (some a2)))] [.cell 0 0, .cell 1 0, .cell 2 0] :=
  vars_read3n enc gl_errNotValid gt_errNotValid h.v0 trivial gl_errBeyond gt_errBeyond h.v1 trivial gl_errTooMany gt_errTooMany h.v2 trivial Tryd.underlying74 sp

/-- what the rows list of the package's 4 errors. -/
abbrev laidSents4 : List (String × DataW Unit) := [("loop.example/g01383/impl.errNotValid", Rows.laid_loop_example_g01383_impl_errNotValid), ("loop.example/g01383/impl.errBeyond", Rows.laid_loop_example_g01383_impl_errBeyond), ("loop.example/g01383/impl.errTooMany", Rows.laid_loop_example_g01383_impl_errTooMany), ("loop.example/g01383/impl.errNoJoint", Rows.laid_loop_example_g01383_impl_errNoJoint)]
/-- the variables hold their pointers. -/
structure Vr4 (W : World) (a0 a1 a2 a3 : Addr) : Prop where
  v0 : W.var? Tryd.prog "loop.example/g01383/impl.errNotValid" = some #[.iface 165 (.pointer (some a0))]
  v1 : W.var? Tryd.prog "loop.example/g01383/impl.errBeyond" = some #[.iface 165 (.pointer (some a1))]
  v2 : W.var? Tryd.prog "loop.example/g01383/impl.errTooMany" = some #[.iface 165 (.pointer (some a2))]
  v3 : W.var? Tryd.prog "loop.example/g01383/impl.errNoJoint" = some #[.iface 165 (.pointer (some a3))]
theorem Vr4.below {W W' : World} {a0 a1 a2 a3 : Addr} (h : Vr4 W a0 a1 a2 a3) (hb : Below W.heap.size W W') : Vr4 W' a0 a1 a2 a3 := ⟨var_below h.v0 hb, var_below h.v1 hb, var_below h.v2 hb, var_below h.v3 hb⟩
theorem sents4_of_laid {W : World} (h : laidMetH Tryd.prog laidSents4 W) : ∃ a0 a1 a2 a3, Sent4 W a0 a1 a2 a3 ∧ Vr4 W a0 a1 a2 a3 := by
  have h' : laidMet Tryd.prog laidSents4 W := h
  obtain ⟨a0, a1, a2, a3, hv0, hv1, hv2, hv3, hb0, hb1, hb2, hb3, n01, n02, n03, n12, n13, n23⟩ := laid_sentinels4 (P := Tryd.prog) (r := []) (ti := 74) (tp := 165) (te := 191) (ts := 9) h' gl_errNotValid gt_errNotValid gl_errBeyond gt_errBeyond gl_errTooMany gt_errTooMany gl_errNoJoint gt_errNoJoint Tryd.underlying74 rowErr Tryd.underlying165 Tryd.underlying191 rfl rfl Tryd.underlying9 (by kernel_rfl) (by kernel_rfl)
  exact ⟨a0, a1, a2, a3, ⟨⟨by simpa using World.var?_cell gl_errNotValid hv0 0, by simpa using World.var?_cell gl_errBeyond hv1 0, by simpa using World.var?_cell gl_errTooMany hv2 0, hb0, hb1, hb2, n01, n02, n12⟩, by simpa using World.var?_cell gl_errNoJoint hv3 0, hb3, n03, n13, n23⟩, hv0, hv1, hv2, hv3⟩
/-- a world that meets the condition. -/
noncomputable def laidWorldS4 (os : Os) : World :=
  let low := (World.holding Tryd.prog default ⟨#[], #[], []⟩).heap.size
  let w0 := World.holding Tryd.prog os ⟨#[.cells #[.string (textOf Rows.laid_loop_example_g01383_impl_errNotValid)] 191, .cells #[.string (textOf Rows.laid_loop_example_g01383_impl_errBeyond)] 191, .cells #[.string (textOf Rows.laid_loop_example_g01383_impl_errTooMany)] 191, .cells #[.string (textOf Rows.laid_loop_example_g01383_impl_errNoJoint)] 191], #[], []⟩
  let put (h : Array Obj) (g k : Nat) : Array Obj := h.modify g fun
    | .cells _ t frozen => .cells #[.iface 165 (.pointer (some ⟨low + k, 0, none⟩))] t frozen
    | o => o
  { w0 with heap := (put (put (put (put w0.heap 0 0) 1 1) 2 2) 3 3) }
theorem laidWorldS4_met (os : Os) (args : Array Value) : laidMetH Tryd.prog laidSents4 ((laidWorldS4 os).forCall (fun _ _ => 0) ⟨#[], args, []⟩).memory := by
  show laidMet Tryd.prog laidSents4 _
  exact laidMet_of_run' 8 (by kernel_rfl) (by kernel_rfl)
theorem vars4123 {H : Type} (enc : TypeId × Value → H) {W : World} {a0 a1 a2 a3 : Addr} (h : Vr4 W a0 a1 a2 a3) (sp : Nat → Bool) :
    DataW.TrodVars enc Tryd.prog W sp ["loop.example/g01383/impl.errNoJoint", "loop.example/g01383/impl.errNotValid", "loop.example/g01383/impl.errBeyond", "loop.example/g01383/impl.errTooMany"] [tok enc (.iface 165 (.pointer (some a3))), tok enc (.iface 165 (.pointer (some a0))), tok enc (.iface 165 (.pointer (some a1))), tok enc (.iface 165 (.pointer (some a2)))] [.cell 3 0, .cell 0 0, .cell 1 0, .cell 2 0] :=
  vars_read4n enc gl_errNoJoint gt_errNoJoint h.v3 trivial gl_errNotValid gt_errNotValid h.v0 trivial gl_errBeyond gt_errBeyond h.v1 trivial gl_errTooMany gt_errTooMany h.v2 trivial Tryd.underlying74 sp
end Go.Proofs.YtmkcdelfgaogaaaDoor
