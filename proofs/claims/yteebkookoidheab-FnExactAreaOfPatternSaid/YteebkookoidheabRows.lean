/-
  No cell of these rows narrows 'for every input' (looked for: loops, veiled, ifaces, maps, wideKeys, modest, calm, conditions, laid).
  DERIVED. THE GIVEN ROWS OF THIS SEAT. 12 by the template 'for every input the law returns true; each argument reads behind the call as it read before'; 0 by the template 'total and deterministic' (their statements: YteebkookoidheabTotals.lean).
  GIVEN WITH THE SEED: the statements are not yours to turn. If you find one false, say at which input.
  Laid BY PROGRAM, IN A SANDBOX (cutbox-rows.mjs): the forced cells as the released guide's own fill.sh prints them over the translation 067e990131edb082… (all of the seat's roots in one cut). By AI agents, Wed Nov 11 2026. No macro, syntax, notation, axiom, sorry.
-/
import Derived.Test.YteebkookoidheabChecked
import GoSem.Claim
import GoSem.ClaimJoined
import GoSem.ClaimMapViews
import Derived.JoinedTies
import Derived.KernelRfl
namespace Go.Proofs.Yteebkookoidheab
/- THE CELL 'sum', in the pinned program and in every row, IS THE sha256 OF THE DUMP (.gsa) THAT YteebkookoidheabProg.lean LOADS. Nothing in Lean hashes anything: it is a label: what it is worth is what the hold of that sum in a sandbox is worth. -/
noncomputable def Try.pinned : Pinned := { name := "yteebkookoidheab", sum := "067e990131edb0820acee7b65d51356168113b4c1364a892f52edce69ec6ce2b", checked := Try.checked }
namespace Rows
def none {H : Type} : Left H := { results := [], args := [] }

/-- 'laws.FnExactValidPattern': WHATEVER THE INPUT: true; the input reads as it did. -/
def fnExactValidPatternSpec : ChangeSpec := { name := "fnExactValidPattern", fn := fun _ => fun
  | [d] => { results := [.lit (.bool true)], args := [d] }
  | _ => none }
def fnExactValidPatternRow : OpenClaim := { program := "yteebkookoidheab", sum := "067e990131edb0820acee7b65d51356168113b4c1364a892f52edce69ec6ce2b", func := "loop.example/g01383/laws.FnExactValidPattern", spec := "fnExactValidPattern", apart := false }
def FnExactValidPatternSaid : Prop := fnExactValidPatternRow.holds Try.pinned (OpenSpec.ofChange fnExactValidPatternSpec)

/-- ITS FALSE NEIGHBOUR: 'it returns false'. Refute it at one input. -/
def fnExactValidPatternWrong : ChangeSpec := { name := "fnExactValidPattern", fn := fun _ => fun
  | [d] => { results := [.lit (.bool false)], args := [d] }
  | _ => none }
def FnExactValidPatternWrongFalsely : Prop := fnExactValidPatternRow.holds Try.pinned (OpenSpec.ofChange fnExactValidPatternWrong)

/-- 'laws.FnExactSamePattern': WHATEVER THE INPUT: true; the input reads as it did. -/
def fnExactSamePatternSpec : ChangeSpec := { name := "fnExactSamePattern", fn := fun _ => fun
  | [d1, d2] => { results := [.lit (.bool true)], args := [d1, d2] }
  | _ => none }
def fnExactSamePatternRow : OpenClaim := { program := "yteebkookoidheab", sum := "067e990131edb0820acee7b65d51356168113b4c1364a892f52edce69ec6ce2b", func := "loop.example/g01383/laws.FnExactSamePattern", spec := "fnExactSamePattern", apart := false }
def FnExactSamePatternSaid : Prop := fnExactSamePatternRow.holds Try.pinned (OpenSpec.ofChange fnExactSamePatternSpec)

/-- ITS FALSE NEIGHBOUR: 'it returns false'. Refute it at one input. -/
def fnExactSamePatternWrong : ChangeSpec := { name := "fnExactSamePattern", fn := fun _ => fun
  | [d1, d2] => { results := [.lit (.bool false)], args := [d1, d2] }
  | _ => none }
def FnExactSamePatternWrongFalsely : Prop := fnExactSamePatternRow.holds Try.pinned (OpenSpec.ofChange fnExactSamePatternWrong)

/-- 'laws.FnExactAreaOfPattern': WHATEVER THE INPUT: true; the input reads as it did. -/
def fnExactAreaOfPatternSpec : ChangeSpec := { name := "fnExactAreaOfPattern", fn := fun _ => fun
  | [d] => { results := [.lit (.bool true)], args := [d] }
  | _ => none }
def fnExactAreaOfPatternRow : OpenClaim := { program := "yteebkookoidheab", sum := "067e990131edb0820acee7b65d51356168113b4c1364a892f52edce69ec6ce2b", func := "loop.example/g01383/laws.FnExactAreaOfPattern", spec := "fnExactAreaOfPattern", apart := false }
def FnExactAreaOfPatternSaid : Prop := fnExactAreaOfPatternRow.holds Try.pinned (OpenSpec.ofChange fnExactAreaOfPatternSpec)

/-- ITS FALSE NEIGHBOUR: 'it returns false'. Refute it at one input. -/
def fnExactAreaOfPatternWrong : ChangeSpec := { name := "fnExactAreaOfPattern", fn := fun _ => fun
  | [d] => { results := [.lit (.bool false)], args := [d] }
  | _ => none }
def FnExactAreaOfPatternWrongFalsely : Prop := fnExactAreaOfPatternRow.holds Try.pinned (OpenSpec.ofChange fnExactAreaOfPatternWrong)

/-- 'laws.FnExactFirstGap': WHATEVER THE INPUT: true; the input reads as it did. -/
def fnExactFirstGapSpec : ChangeSpec := { name := "fnExactFirstGap", fn := fun _ => fun
  | [d] => { results := [.lit (.bool true)], args := [d] }
  | _ => none }
def fnExactFirstGapRow : OpenClaim := { program := "yteebkookoidheab", sum := "067e990131edb0820acee7b65d51356168113b4c1364a892f52edce69ec6ce2b", func := "loop.example/g01383/laws.FnExactFirstGap", spec := "fnExactFirstGap", unfollowed := true, recurses := true, apart := false }
def FnExactFirstGapSaid : Prop := fnExactFirstGapRow.holds Try.pinned (OpenSpec.ofChange fnExactFirstGapSpec)

/-- ITS FALSE NEIGHBOUR: 'it returns false'. Refute it at one input. -/
def fnExactFirstGapWrong : ChangeSpec := { name := "fnExactFirstGap", fn := fun _ => fun
  | [d] => { results := [.lit (.bool false)], args := [d] }
  | _ => none }
def FnExactFirstGapWrongFalsely : Prop := fnExactFirstGapRow.holds Try.pinned (OpenSpec.ofChange fnExactFirstGapWrong)

/-- 'laws.FnExactCoversPlane': WHATEVER THE INPUT: true; the input reads as it did. -/
def fnExactCoversPlaneSpec : ChangeSpec := { name := "fnExactCoversPlane", fn := fun _ => fun
  | [d] => { results := [.lit (.bool true)], args := [d] }
  | _ => none }
def fnExactCoversPlaneRow : OpenClaim := { program := "yteebkookoidheab", sum := "067e990131edb0820acee7b65d51356168113b4c1364a892f52edce69ec6ce2b", func := "loop.example/g01383/laws.FnExactCoversPlane", spec := "fnExactCoversPlane", unfollowed := true, recurses := true, apart := false }
def FnExactCoversPlaneSaid : Prop := fnExactCoversPlaneRow.holds Try.pinned (OpenSpec.ofChange fnExactCoversPlaneSpec)

/-- ITS FALSE NEIGHBOUR: 'it returns false'. Refute it at one input. -/
def fnExactCoversPlaneWrong : ChangeSpec := { name := "fnExactCoversPlane", fn := fun _ => fun
  | [d] => { results := [.lit (.bool false)], args := [d] }
  | _ => none }
def FnExactCoversPlaneWrongFalsely : Prop := fnExactCoversPlaneRow.holds Try.pinned (OpenSpec.ofChange fnExactCoversPlaneWrong)

/-- 'laws.FnExactPartAt': WHATEVER THE INPUT: true; the input reads as it did. -/
def fnExactPartAtSpec : ChangeSpec := { name := "fnExactPartAt", fn := fun _ => fun
  | [d1, d2, d3] => { results := [.lit (.bool true)], args := [d1, d2, d3] }
  | _ => none }
def fnExactPartAtRow : OpenClaim := { program := "yteebkookoidheab", sum := "067e990131edb0820acee7b65d51356168113b4c1364a892f52edce69ec6ce2b", func := "loop.example/g01383/laws.FnExactPartAt", spec := "fnExactPartAt", unfollowed := true, recurses := true, apart := false }
def FnExactPartAtSaid : Prop := fnExactPartAtRow.holds Try.pinned (OpenSpec.ofChange fnExactPartAtSpec)

/-- ITS FALSE NEIGHBOUR: 'it returns false'. Refute it at one input. -/
def fnExactPartAtWrong : ChangeSpec := { name := "fnExactPartAt", fn := fun _ => fun
  | [d1, d2, d3] => { results := [.lit (.bool false)], args := [d1, d2, d3] }
  | _ => none }
def FnExactPartAtWrongFalsely : Prop := fnExactPartAtRow.holds Try.pinned (OpenSpec.ofChange fnExactPartAtWrong)

/-- 'laws.FnExactLongJoint': WHATEVER THE INPUT: true; the input reads as it did. -/
def fnExactLongJointSpec : ChangeSpec := { name := "fnExactLongJoint", fn := fun _ => fun
  | [d] => { results := [.lit (.bool true)], args := [d] }
  | _ => none }
def fnExactLongJointRow : OpenClaim := { program := "yteebkookoidheab", sum := "067e990131edb0820acee7b65d51356168113b4c1364a892f52edce69ec6ce2b", func := "loop.example/g01383/laws.FnExactLongJoint", spec := "fnExactLongJoint", unfollowed := true, recurses := true, apart := false }
def FnExactLongJointSaid : Prop := fnExactLongJointRow.holds Try.pinned (OpenSpec.ofChange fnExactLongJointSpec)

/-- ITS FALSE NEIGHBOUR: 'it returns false'. Refute it at one input. -/
def fnExactLongJointWrong : ChangeSpec := { name := "fnExactLongJoint", fn := fun _ => fun
  | [d] => { results := [.lit (.bool false)], args := [d] }
  | _ => none }
def FnExactLongJointWrongFalsely : Prop := fnExactLongJointRow.holds Try.pinned (OpenSpec.ofChange fnExactLongJointWrong)

/-- 'laws.FnExactLayPattern': WHATEVER THE INPUT: true; the input reads as it did. -/
def fnExactLayPatternSpec : ChangeSpec := { name := "fnExactLayPattern", fn := fun _ => fun
  | [d1, d2, d3, d4, d5] => { results := [.lit (.bool true)], args := [d1, d2, d3, d4, d5] }
  | _ => none }
def fnExactLayPatternRow : OpenClaim := { program := "yteebkookoidheab", sum := "067e990131edb0820acee7b65d51356168113b4c1364a892f52edce69ec6ce2b", func := "loop.example/g01383/laws.FnExactLayPattern", spec := "fnExactLayPattern", unfollowed := true, recurses := true, apart := false }
def FnExactLayPatternSaid : Prop := fnExactLayPatternRow.holds Try.pinned (OpenSpec.ofChange fnExactLayPatternSpec)

/-- ITS FALSE NEIGHBOUR: 'it returns false'. Refute it at one input. -/
def fnExactLayPatternWrong : ChangeSpec := { name := "fnExactLayPattern", fn := fun _ => fun
  | [d1, d2, d3, d4, d5] => { results := [.lit (.bool false)], args := [d1, d2, d3, d4, d5] }
  | _ => none }
def FnExactLayPatternWrongFalsely : Prop := fnExactLayPatternRow.holds Try.pinned (OpenSpec.ofChange fnExactLayPatternWrong)

/-- 'laws.FnExactCutsIn': WHATEVER THE INPUT: true; the input reads as it did. -/
def fnExactCutsInSpec : ChangeSpec := { name := "fnExactCutsIn", fn := fun _ => fun
  | [d1, d2, d3, d4, d5] => { results := [.lit (.bool true)], args := [d1, d2, d3, d4, d5] }
  | _ => none }
def fnExactCutsInRow : OpenClaim := { program := "yteebkookoidheab", sum := "067e990131edb0820acee7b65d51356168113b4c1364a892f52edce69ec6ce2b", func := "loop.example/g01383/laws.FnExactCutsIn", spec := "fnExactCutsIn", unfollowed := true, recurses := true, apart := false }
def FnExactCutsInSaid : Prop := fnExactCutsInRow.holds Try.pinned (OpenSpec.ofChange fnExactCutsInSpec)

/-- ITS FALSE NEIGHBOUR: 'it returns false'. Refute it at one input. -/
def fnExactCutsInWrong : ChangeSpec := { name := "fnExactCutsIn", fn := fun _ => fun
  | [d1, d2, d3, d4, d5] => { results := [.lit (.bool false)], args := [d1, d2, d3, d4, d5] }
  | _ => none }
def FnExactCutsInWrongFalsely : Prop := fnExactCutsInRow.holds Try.pinned (OpenSpec.ofChange fnExactCutsInWrong)

/-- 'laws.FnExactWholeSlabs': WHATEVER THE INPUT: true; the input reads as it did. -/
def fnExactWholeSlabsSpec : ChangeSpec := { name := "fnExactWholeSlabs", fn := fun _ => fun
  | [d1, d2, d3, d4, d5] => { results := [.lit (.bool true)], args := [d1, d2, d3, d4, d5] }
  | _ => none }
def fnExactWholeSlabsRow : OpenClaim := { program := "yteebkookoidheab", sum := "067e990131edb0820acee7b65d51356168113b4c1364a892f52edce69ec6ce2b", func := "loop.example/g01383/laws.FnExactWholeSlabs", spec := "fnExactWholeSlabs", unfollowed := true, recurses := true, apart := false }
def FnExactWholeSlabsSaid : Prop := fnExactWholeSlabsRow.holds Try.pinned (OpenSpec.ofChange fnExactWholeSlabsSpec)

/-- ITS FALSE NEIGHBOUR: 'it returns false'. Refute it at one input. -/
def fnExactWholeSlabsWrong : ChangeSpec := { name := "fnExactWholeSlabs", fn := fun _ => fun
  | [d1, d2, d3, d4, d5] => { results := [.lit (.bool false)], args := [d1, d2, d3, d4, d5] }
  | _ => none }
def FnExactWholeSlabsWrongFalsely : Prop := fnExactWholeSlabsRow.holds Try.pinned (OpenSpec.ofChange fnExactWholeSlabsWrong)

/-- 'laws.FnExactWasteIn': WHATEVER THE INPUT: true; the input reads as it did. -/
def fnExactWasteInSpec : ChangeSpec := { name := "fnExactWasteIn", fn := fun _ => fun
  | [d1, d2, d3, d4, d5] => { results := [.lit (.bool true)], args := [d1, d2, d3, d4, d5] }
  | _ => none }
def fnExactWasteInRow : OpenClaim := { program := "yteebkookoidheab", sum := "067e990131edb0820acee7b65d51356168113b4c1364a892f52edce69ec6ce2b", func := "loop.example/g01383/laws.FnExactWasteIn", spec := "fnExactWasteIn", unfollowed := true, recurses := true, apart := false }
def FnExactWasteInSaid : Prop := fnExactWasteInRow.holds Try.pinned (OpenSpec.ofChange fnExactWasteInSpec)

/-- ITS FALSE NEIGHBOUR: 'it returns false'. Refute it at one input. -/
def fnExactWasteInWrong : ChangeSpec := { name := "fnExactWasteIn", fn := fun _ => fun
  | [d1, d2, d3, d4, d5] => { results := [.lit (.bool false)], args := [d1, d2, d3, d4, d5] }
  | _ => none }
def FnExactWasteInWrongFalsely : Prop := fnExactWasteInRow.holds Try.pinned (OpenSpec.ofChange fnExactWasteInWrong)

/-- 'laws.FnExactRepeatsBy': WHATEVER THE INPUT: true; the input reads as it did. -/
def fnExactRepeatsBySpec : ChangeSpec := { name := "fnExactRepeatsBy", fn := fun _ => fun
  | [d1, d2, d3] => { results := [.lit (.bool true)], args := [d1, d2, d3] }
  | _ => none }
def fnExactRepeatsByRow : OpenClaim := { program := "yteebkookoidheab", sum := "067e990131edb0820acee7b65d51356168113b4c1364a892f52edce69ec6ce2b", func := "loop.example/g01383/laws.FnExactRepeatsBy", spec := "fnExactRepeatsBy", unfollowed := true, recurses := true, apart := false }
def FnExactRepeatsBySaid : Prop := fnExactRepeatsByRow.holds Try.pinned (OpenSpec.ofChange fnExactRepeatsBySpec)

/-- ITS FALSE NEIGHBOUR: 'it returns false'. Refute it at one input. -/
def fnExactRepeatsByWrong : ChangeSpec := { name := "fnExactRepeatsBy", fn := fun _ => fun
  | [d1, d2, d3] => { results := [.lit (.bool false)], args := [d1, d2, d3] }
  | _ => none }
def FnExactRepeatsByWrongFalsely : Prop := fnExactRepeatsByRow.holds Try.pinned (OpenSpec.ofChange fnExactRepeatsByWrong)

/- THE SECOND FORM. 'bulk': how many values and letters a reading holds, each counted each time it is reached (what is shared counts as often as it is met; a slice's spare places count too). A statement '..UptoSaid' is the law's where the arguments, and the package variables that the reading takes, are together of bulk at most 1048576: NARROWER than '..Said'. Prove '..Said' where nothing that the law and all that it calls make is longer than what came in: it says more and counts as full. Else prove '..UptoSaid'. A law counts once. -/
mutual
def uptoBulk {H : Type} : DataW H → Nat
  | .lit (.string bytes) => bytes.length + 1
  | .lit _ => 1
  | .nil => 1
  | .ptr d => uptoBulk d + 1
  | .slice elems spare => uptoBulkAll elems + uptoBulkAll spare + 1
  | .agg parts => uptoBulkAll parts + 1
  | .iface _ d => uptoBulk d + 1
  | .map entries => uptoBulkEntries entries + 1
  | .held _ => 1
def uptoBulkAll {H : Type} : List (DataW H) → Nat
  | [] => 0
  | d :: r => uptoBulk d + uptoBulkAll r
def uptoBulkEntries {H : Type} : List (Lit × DataW H) → Nat
  | [] => 0
  | x :: r => uptoBulkEntry x + uptoBulkEntries r
def uptoBulkEntry {H : Type} : Lit × DataW H → Nat
  | (.string bytes, d) => bytes.length + uptoBulk d + 1
  | (_, d) => uptoBulk d + 1
 end
def uptoSmall : (H : Type) → List (DataW H) → Bool := fun _ ds => decide (uptoBulkAll ds ≤ 1048576)
def OpenSpec.upto (s : _root_.Go.ChangeSpec) : _root_.Go.OpenSpec := { _root_.Go.OpenSpec.ofChange s with cond := some uptoSmall }

/-- 'laws.FnExactValidPattern', WHERE WHAT IT READS IS OF BULK AT MOST 1048576: true; the input reads as it did. -/
def fnExactValidPatternUptoRow : OpenClaim := { program := "yteebkookoidheab", sum := "067e990131edb0820acee7b65d51356168113b4c1364a892f52edce69ec6ce2b", func := "loop.example/g01383/laws.FnExactValidPattern", spec := "fnExactValidPattern", apart := false, narrowed := true }
def FnExactValidPatternUptoSaid : Prop := fnExactValidPatternUptoRow.holds Try.pinned (OpenSpec.upto fnExactValidPatternSpec)

/-- 'laws.FnExactSamePattern', WHERE WHAT IT READS IS OF BULK AT MOST 1048576: true; the input reads as it did. -/
def fnExactSamePatternUptoRow : OpenClaim := { program := "yteebkookoidheab", sum := "067e990131edb0820acee7b65d51356168113b4c1364a892f52edce69ec6ce2b", func := "loop.example/g01383/laws.FnExactSamePattern", spec := "fnExactSamePattern", apart := false, narrowed := true }
def FnExactSamePatternUptoSaid : Prop := fnExactSamePatternUptoRow.holds Try.pinned (OpenSpec.upto fnExactSamePatternSpec)

/-- 'laws.FnExactAreaOfPattern', WHERE WHAT IT READS IS OF BULK AT MOST 1048576: true; the input reads as it did. -/
def fnExactAreaOfPatternUptoRow : OpenClaim := { program := "yteebkookoidheab", sum := "067e990131edb0820acee7b65d51356168113b4c1364a892f52edce69ec6ce2b", func := "loop.example/g01383/laws.FnExactAreaOfPattern", spec := "fnExactAreaOfPattern", apart := false, narrowed := true }
def FnExactAreaOfPatternUptoSaid : Prop := fnExactAreaOfPatternUptoRow.holds Try.pinned (OpenSpec.upto fnExactAreaOfPatternSpec)

/-- 'laws.FnExactFirstGap', WHERE WHAT IT READS IS OF BULK AT MOST 1048576: true; the input reads as it did. -/
def fnExactFirstGapUptoRow : OpenClaim := { program := "yteebkookoidheab", sum := "067e990131edb0820acee7b65d51356168113b4c1364a892f52edce69ec6ce2b", func := "loop.example/g01383/laws.FnExactFirstGap", spec := "fnExactFirstGap", unfollowed := true, recurses := true, apart := false, narrowed := true }
def FnExactFirstGapUptoSaid : Prop := fnExactFirstGapUptoRow.holds Try.pinned (OpenSpec.upto fnExactFirstGapSpec)

/-- 'laws.FnExactCoversPlane', WHERE WHAT IT READS IS OF BULK AT MOST 1048576: true; the input reads as it did. -/
def fnExactCoversPlaneUptoRow : OpenClaim := { program := "yteebkookoidheab", sum := "067e990131edb0820acee7b65d51356168113b4c1364a892f52edce69ec6ce2b", func := "loop.example/g01383/laws.FnExactCoversPlane", spec := "fnExactCoversPlane", unfollowed := true, recurses := true, apart := false, narrowed := true }
def FnExactCoversPlaneUptoSaid : Prop := fnExactCoversPlaneUptoRow.holds Try.pinned (OpenSpec.upto fnExactCoversPlaneSpec)

/-- 'laws.FnExactPartAt', WHERE WHAT IT READS IS OF BULK AT MOST 1048576: true; the input reads as it did. -/
def fnExactPartAtUptoRow : OpenClaim := { program := "yteebkookoidheab", sum := "067e990131edb0820acee7b65d51356168113b4c1364a892f52edce69ec6ce2b", func := "loop.example/g01383/laws.FnExactPartAt", spec := "fnExactPartAt", unfollowed := true, recurses := true, apart := false, narrowed := true }
def FnExactPartAtUptoSaid : Prop := fnExactPartAtUptoRow.holds Try.pinned (OpenSpec.upto fnExactPartAtSpec)

/-- 'laws.FnExactLongJoint', WHERE WHAT IT READS IS OF BULK AT MOST 1048576: true; the input reads as it did. -/
def fnExactLongJointUptoRow : OpenClaim := { program := "yteebkookoidheab", sum := "067e990131edb0820acee7b65d51356168113b4c1364a892f52edce69ec6ce2b", func := "loop.example/g01383/laws.FnExactLongJoint", spec := "fnExactLongJoint", unfollowed := true, recurses := true, apart := false, narrowed := true }
def FnExactLongJointUptoSaid : Prop := fnExactLongJointUptoRow.holds Try.pinned (OpenSpec.upto fnExactLongJointSpec)

/-- 'laws.FnExactLayPattern', WHERE WHAT IT READS IS OF BULK AT MOST 1048576: true; the input reads as it did. -/
def fnExactLayPatternUptoRow : OpenClaim := { program := "yteebkookoidheab", sum := "067e990131edb0820acee7b65d51356168113b4c1364a892f52edce69ec6ce2b", func := "loop.example/g01383/laws.FnExactLayPattern", spec := "fnExactLayPattern", unfollowed := true, recurses := true, apart := false, narrowed := true }
def FnExactLayPatternUptoSaid : Prop := fnExactLayPatternUptoRow.holds Try.pinned (OpenSpec.upto fnExactLayPatternSpec)

/-- 'laws.FnExactCutsIn', WHERE WHAT IT READS IS OF BULK AT MOST 1048576: true; the input reads as it did. -/
def fnExactCutsInUptoRow : OpenClaim := { program := "yteebkookoidheab", sum := "067e990131edb0820acee7b65d51356168113b4c1364a892f52edce69ec6ce2b", func := "loop.example/g01383/laws.FnExactCutsIn", spec := "fnExactCutsIn", unfollowed := true, recurses := true, apart := false, narrowed := true }
def FnExactCutsInUptoSaid : Prop := fnExactCutsInUptoRow.holds Try.pinned (OpenSpec.upto fnExactCutsInSpec)

/-- 'laws.FnExactWholeSlabs', WHERE WHAT IT READS IS OF BULK AT MOST 1048576: true; the input reads as it did. -/
def fnExactWholeSlabsUptoRow : OpenClaim := { program := "yteebkookoidheab", sum := "067e990131edb0820acee7b65d51356168113b4c1364a892f52edce69ec6ce2b", func := "loop.example/g01383/laws.FnExactWholeSlabs", spec := "fnExactWholeSlabs", unfollowed := true, recurses := true, apart := false, narrowed := true }
def FnExactWholeSlabsUptoSaid : Prop := fnExactWholeSlabsUptoRow.holds Try.pinned (OpenSpec.upto fnExactWholeSlabsSpec)

/-- 'laws.FnExactWasteIn', WHERE WHAT IT READS IS OF BULK AT MOST 1048576: true; the input reads as it did. -/
def fnExactWasteInUptoRow : OpenClaim := { program := "yteebkookoidheab", sum := "067e990131edb0820acee7b65d51356168113b4c1364a892f52edce69ec6ce2b", func := "loop.example/g01383/laws.FnExactWasteIn", spec := "fnExactWasteIn", unfollowed := true, recurses := true, apart := false, narrowed := true }
def FnExactWasteInUptoSaid : Prop := fnExactWasteInUptoRow.holds Try.pinned (OpenSpec.upto fnExactWasteInSpec)

/-- 'laws.FnExactRepeatsBy', WHERE WHAT IT READS IS OF BULK AT MOST 1048576: true; the input reads as it did. -/
def fnExactRepeatsByUptoRow : OpenClaim := { program := "yteebkookoidheab", sum := "067e990131edb0820acee7b65d51356168113b4c1364a892f52edce69ec6ce2b", func := "loop.example/g01383/laws.FnExactRepeatsBy", spec := "fnExactRepeatsBy", unfollowed := true, recurses := true, apart := false, narrowed := true }
def FnExactRepeatsByUptoSaid : Prop := fnExactRepeatsByUptoRow.holds Try.pinned (OpenSpec.upto fnExactRepeatsBySpec)

end Rows
end Go.Proofs.Yteebkookoidheab
