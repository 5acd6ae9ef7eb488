/-
  No cell of these rows narrows 'for every input' (looked for: loops, veiled, ifaces, maps, wideKeys, modest, calm, conditions, laid).
  DERIVED. THE GIVEN ROWS OF THIS SEAT. 11 by the template 'for every input the law returns true; each argument reads behind the call as it read before'; 0 by the template 'total and deterministic' (their statements: YtkdakpbkpfigeaaTotals.lean).
  GIVEN WITH THE SEED: the statements are not yours to turn. If you find one false, say at which input.
  Laid BY PROGRAM, IN A SANDBOX (cutbox-rows.mjs): the forced cells as the released guide's own fill.sh prints them over the translation f6194befdeb0fcbd… (all of the seat's roots in one cut). By AI agents, Wed Nov 11 2026. No macro, syntax, notation, axiom, sorry.
-/
import Derived.Test.YtkdakpbkpfigeaaChecked
import GoSem.Claim
import GoSem.ClaimJoined
import GoSem.ClaimMapViews
import Derived.JoinedTies
import Derived.KernelRfl
namespace Go.Proofs.Ytkdakpbkpfigeaa
/- THE CELL 'sum', in the pinned program and in every row, IS THE sha256 OF THE DUMP (.gsa) THAT YtkdakpbkpfigeaaProg.lean LOADS. Nothing in Lean hashes anything: it is a label: what it is worth is what the hold of that sum in a sandbox is worth. -/
noncomputable def Try.pinned : Pinned := { name := "ytkdakpbkpfigeaa", sum := "f6194befdeb0fcbd45609d247ee12a3a868987db3b462f0290ee4dda608ea64b", checked := Try.checked }
namespace Rows
def none {H : Type} : Left H := { results := [], args := [] }

/-- 'laws.FnExactValidLevels': WHATEVER THE INPUT: true; the input reads as it did. -/
def fnExactValidLevelsSpec : ChangeSpec := { name := "fnExactValidLevels", fn := fun _ => fun
  | [d1, d2] => { results := [.lit (.bool true)], args := [d1, d2] }
  | _ => none }
def fnExactValidLevelsRow : OpenClaim := { program := "ytkdakpbkpfigeaa", sum := "f6194befdeb0fcbd45609d247ee12a3a868987db3b462f0290ee4dda608ea64b", func := "loop.example/g01383/laws.FnExactValidLevels", spec := "fnExactValidLevels", unfollowed := true, recurses := true, plainKeys := false, apart := false }
def FnExactValidLevelsSaid : Prop := fnExactValidLevelsRow.holds Try.pinned (OpenSpec.ofChange fnExactValidLevelsSpec)

/-- ITS FALSE NEIGHBOUR: 'it returns false'. Refute it at one input. -/
def fnExactValidLevelsWrong : ChangeSpec := { name := "fnExactValidLevels", fn := fun _ => fun
  | [d1, d2] => { results := [.lit (.bool false)], args := [d1, d2] }
  | _ => none }
def FnExactValidLevelsWrongFalsely : Prop := fnExactValidLevelsRow.holds Try.pinned (OpenSpec.ofChange fnExactValidLevelsWrong)

/-- 'laws.FnExactWorstTrip': WHATEVER THE INPUT: true; the input reads as it did. -/
def fnExactWorstTripSpec : ChangeSpec := { name := "fnExactWorstTrip", fn := fun _ => fun
  | [d1, d2] => { results := [.lit (.bool true)], args := [d1, d2] }
  | _ => none }
def fnExactWorstTripRow : OpenClaim := { program := "ytkdakpbkpfigeaa", sum := "f6194befdeb0fcbd45609d247ee12a3a868987db3b462f0290ee4dda608ea64b", func := "loop.example/g01383/laws.FnExactWorstTrip", spec := "fnExactWorstTrip", unfollowed := true, recurses := true, plainKeys := false, apart := false }
def FnExactWorstTripSaid : Prop := fnExactWorstTripRow.holds Try.pinned (OpenSpec.ofChange fnExactWorstTripSpec)

/-- ITS FALSE NEIGHBOUR: 'it returns false'. Refute it at one input. -/
def fnExactWorstTripWrong : ChangeSpec := { name := "fnExactWorstTrip", fn := fun _ => fun
  | [d1, d2] => { results := [.lit (.bool false)], args := [d1, d2] }
  | _ => none }
def FnExactWorstTripWrongFalsely : Prop := fnExactWorstTripRow.holds Try.pinned (OpenSpec.ofChange fnExactWorstTripWrong)

/-- 'laws.FnExactLevelsAfter': WHATEVER THE INPUT: true; the input reads as it did. -/
def fnExactLevelsAfterSpec : ChangeSpec := { name := "fnExactLevelsAfter", fn := fun _ => fun
  | [d1, d2, d3, d4] => { results := [.lit (.bool true)], args := [d1, d2, d3, d4] }
  | _ => none }
def fnExactLevelsAfterRow : OpenClaim := { program := "ytkdakpbkpfigeaa", sum := "f6194befdeb0fcbd45609d247ee12a3a868987db3b462f0290ee4dda608ea64b", func := "loop.example/g01383/laws.FnExactLevelsAfter", spec := "fnExactLevelsAfter", unfollowed := true, recurses := true, plainKeys := false, apart := false }
def FnExactLevelsAfterSaid : Prop := fnExactLevelsAfterRow.holds Try.pinned (OpenSpec.ofChange fnExactLevelsAfterSpec)

/-- ITS FALSE NEIGHBOUR: 'it returns false'. Refute it at one input. -/
def fnExactLevelsAfterWrong : ChangeSpec := { name := "fnExactLevelsAfter", fn := fun _ => fun
  | [d1, d2, d3, d4] => { results := [.lit (.bool false)], args := [d1, d2, d3, d4] }
  | _ => none }
def FnExactLevelsAfterWrongFalsely : Prop := fnExactLevelsAfterRow.holds Try.pinned (OpenSpec.ofChange fnExactLevelsAfterWrong)

/-- 'laws.FnExactFirstTrip': WHATEVER THE INPUT: true; the input reads as it did. -/
def fnExactFirstTripSpec : ChangeSpec := { name := "fnExactFirstTrip", fn := fun _ => fun
  | [d1, d2, d3, d4] => { results := [.lit (.bool true)], args := [d1, d2, d3, d4] }
  | _ => none }
def fnExactFirstTripRow : OpenClaim := { program := "ytkdakpbkpfigeaa", sum := "f6194befdeb0fcbd45609d247ee12a3a868987db3b462f0290ee4dda608ea64b", func := "loop.example/g01383/laws.FnExactFirstTrip", spec := "fnExactFirstTrip", unfollowed := true, recurses := true, plainKeys := false, apart := false }
def FnExactFirstTripSaid : Prop := fnExactFirstTripRow.holds Try.pinned (OpenSpec.ofChange fnExactFirstTripSpec)

/-- ITS FALSE NEIGHBOUR: 'it returns false'. Refute it at one input. -/
def fnExactFirstTripWrong : ChangeSpec := { name := "fnExactFirstTrip", fn := fun _ => fun
  | [d1, d2, d3, d4] => { results := [.lit (.bool false)], args := [d1, d2, d3, d4] }
  | _ => none }
def FnExactFirstTripWrongFalsely : Prop := fnExactFirstTripRow.holds Try.pinned (OpenSpec.ofChange fnExactFirstTripWrong)

/-- 'laws.FnExactBesideSlab': WHATEVER THE INPUT: true; the input reads as it did. -/
def fnExactBesideSlabSpec : ChangeSpec := { name := "fnExactBesideSlab", fn := fun _ => fun
  | [d1, d2] => { results := [.lit (.bool true)], args := [d1, d2] }
  | _ => none }
def fnExactBesideSlabRow : OpenClaim := { program := "ytkdakpbkpfigeaa", sum := "f6194befdeb0fcbd45609d247ee12a3a868987db3b462f0290ee4dda608ea64b", func := "loop.example/g01383/laws.FnExactBesideSlab", spec := "fnExactBesideSlab", unfollowed := true, recurses := true, plainKeys := false, apart := false }
def FnExactBesideSlabSaid : Prop := fnExactBesideSlabRow.holds Try.pinned (OpenSpec.ofChange fnExactBesideSlabSpec)

/-- ITS FALSE NEIGHBOUR: 'it returns false'. Refute it at one input. -/
def fnExactBesideSlabWrong : ChangeSpec := { name := "fnExactBesideSlab", fn := fun _ => fun
  | [d1, d2] => { results := [.lit (.bool false)], args := [d1, d2] }
  | _ => none }
def FnExactBesideSlabWrongFalsely : Prop := fnExactBesideSlabRow.holds Try.pinned (OpenSpec.ofChange fnExactBesideSlabWrong)

/-- 'laws.FnExactFillWith': WHATEVER THE INPUT: true; the input reads as it did. -/
def fnExactFillWithSpec : ChangeSpec := { name := "fnExactFillWith", fn := fun _ => fun
  | [d1, d2, d3] => { results := [.lit (.bool true)], args := [d1, d2, d3] }
  | _ => none }
def fnExactFillWithRow : OpenClaim := { program := "ytkdakpbkpfigeaa", sum := "f6194befdeb0fcbd45609d247ee12a3a868987db3b462f0290ee4dda608ea64b", func := "loop.example/g01383/laws.FnExactFillWith", spec := "fnExactFillWith", unfollowed := true, recurses := true, plainKeys := false, apart := false }
def FnExactFillWithSaid : Prop := fnExactFillWithRow.holds Try.pinned (OpenSpec.ofChange fnExactFillWithSpec)

/-- ITS FALSE NEIGHBOUR: 'it returns false'. Refute it at one input. -/
def fnExactFillWithWrong : ChangeSpec := { name := "fnExactFillWith", fn := fun _ => fun
  | [d1, d2, d3] => { results := [.lit (.bool false)], args := [d1, d2, d3] }
  | _ => none }
def FnExactFillWithWrongFalsely : Prop := fnExactFillWithRow.holds Try.pinned (OpenSpec.ofChange fnExactFillWithWrong)

/-- 'laws.FnExactLayAll': WHATEVER THE INPUT: true; the input reads as it did. -/
def fnExactLayAllSpec : ChangeSpec := { name := "fnExactLayAll", fn := fun _ => fun
  | [d1, d2, d3] => { results := [.lit (.bool true)], args := [d1, d2, d3] }
  | _ => none }
def fnExactLayAllRow : OpenClaim := { program := "ytkdakpbkpfigeaa", sum := "f6194befdeb0fcbd45609d247ee12a3a868987db3b462f0290ee4dda608ea64b", func := "loop.example/g01383/laws.FnExactLayAll", spec := "fnExactLayAll", unfollowed := true, recurses := true, plainKeys := false, apart := false }
def FnExactLayAllSaid : Prop := fnExactLayAllRow.holds Try.pinned (OpenSpec.ofChange fnExactLayAllSpec)

/-- ITS FALSE NEIGHBOUR: 'it returns false'. Refute it at one input. -/
def fnExactLayAllWrong : ChangeSpec := { name := "fnExactLayAll", fn := fun _ => fun
  | [d1, d2, d3] => { results := [.lit (.bool false)], args := [d1, d2, d3] }
  | _ => none }
def FnExactLayAllWrongFalsely : Prop := fnExactLayAllRow.holds Try.pinned (OpenSpec.ofChange fnExactLayAllWrong)

/-- 'laws.FnExactMirrorGround': WHATEVER THE INPUT: true; the input reads as it did. -/
def fnExactMirrorGroundSpec : ChangeSpec := { name := "fnExactMirrorGround", fn := fun _ => fun
  | [d] => { results := [.lit (.bool true)], args := [d] }
  | _ => none }
def fnExactMirrorGroundRow : OpenClaim := { program := "ytkdakpbkpfigeaa", sum := "f6194befdeb0fcbd45609d247ee12a3a868987db3b462f0290ee4dda608ea64b", func := "loop.example/g01383/laws.FnExactMirrorGround", spec := "fnExactMirrorGround", unfollowed := true, recurses := true, plainKeys := false, apart := false }
def FnExactMirrorGroundSaid : Prop := fnExactMirrorGroundRow.holds Try.pinned (OpenSpec.ofChange fnExactMirrorGroundSpec)

/-- ITS FALSE NEIGHBOUR: 'it returns false'. Refute it at one input. -/
def fnExactMirrorGroundWrong : ChangeSpec := { name := "fnExactMirrorGround", fn := fun _ => fun
  | [d] => { results := [.lit (.bool false)], args := [d] }
  | _ => none }
def FnExactMirrorGroundWrongFalsely : Prop := fnExactMirrorGroundRow.holds Try.pinned (OpenSpec.ofChange fnExactMirrorGroundWrong)

/-- 'laws.FnExactTwoBarrows': WHATEVER THE INPUT: true; the input reads as it did. -/
def fnExactTwoBarrowsSpec : ChangeSpec := { name := "fnExactTwoBarrows", fn := fun _ => fun
  | [d] => { results := [.lit (.bool true)], args := [d] }
  | _ => none }
def fnExactTwoBarrowsRow : OpenClaim := { program := "ytkdakpbkpfigeaa", sum := "f6194befdeb0fcbd45609d247ee12a3a868987db3b462f0290ee4dda608ea64b", func := "loop.example/g01383/laws.FnExactTwoBarrows", spec := "fnExactTwoBarrows", unfollowed := true, recurses := true, plainKeys := false, apart := false }
def FnExactTwoBarrowsSaid : Prop := fnExactTwoBarrowsRow.holds Try.pinned (OpenSpec.ofChange fnExactTwoBarrowsSpec)

/-- ITS FALSE NEIGHBOUR: 'it returns false'. Refute it at one input. -/
def fnExactTwoBarrowsWrong : ChangeSpec := { name := "fnExactTwoBarrows", fn := fun _ => fun
  | [d] => { results := [.lit (.bool false)], args := [d] }
  | _ => none }
def FnExactTwoBarrowsWrongFalsely : Prop := fnExactTwoBarrowsRow.holds Try.pinned (OpenSpec.ofChange fnExactTwoBarrowsWrong)

/-- 'laws.FnExactCountOrders': WHATEVER THE INPUT: true; the input reads as it did. -/
def fnExactCountOrdersSpec : ChangeSpec := { name := "fnExactCountOrders", fn := fun _ => fun
  | [d1, d2] => { results := [.lit (.bool true)], args := [d1, d2] }
  | _ => none }
def fnExactCountOrdersRow : OpenClaim := { program := "ytkdakpbkpfigeaa", sum := "f6194befdeb0fcbd45609d247ee12a3a868987db3b462f0290ee4dda608ea64b", func := "loop.example/g01383/laws.FnExactCountOrders", spec := "fnExactCountOrders", unfollowed := true, recurses := true, plainKeys := false, apart := false }
def FnExactCountOrdersSaid : Prop := fnExactCountOrdersRow.holds Try.pinned (OpenSpec.ofChange fnExactCountOrdersSpec)

/-- ITS FALSE NEIGHBOUR: 'it returns false'. Refute it at one input. -/
def fnExactCountOrdersWrong : ChangeSpec := { name := "fnExactCountOrders", fn := fun _ => fun
  | [d1, d2] => { results := [.lit (.bool false)], args := [d1, d2] }
  | _ => none }
def FnExactCountOrdersWrongFalsely : Prop := fnExactCountOrdersRow.holds Try.pinned (OpenSpec.ofChange fnExactCountOrdersWrong)

/-- 'laws.FnExactLayOrder': WHATEVER THE INPUT: true; the input reads as it did. -/
def fnExactLayOrderSpec : ChangeSpec := { name := "fnExactLayOrder", fn := fun _ => fun
  | [d1, d2] => { results := [.lit (.bool true)], args := [d1, d2] }
  | _ => none }
def fnExactLayOrderRow : OpenClaim := { program := "ytkdakpbkpfigeaa", sum := "f6194befdeb0fcbd45609d247ee12a3a868987db3b462f0290ee4dda608ea64b", func := "loop.example/g01383/laws.FnExactLayOrder", spec := "fnExactLayOrder", unfollowed := true, recurses := true, plainKeys := false, apart := false }
def FnExactLayOrderSaid : Prop := fnExactLayOrderRow.holds Try.pinned (OpenSpec.ofChange fnExactLayOrderSpec)

/-- ITS FALSE NEIGHBOUR: 'it returns false'. Refute it at one input. -/
def fnExactLayOrderWrong : ChangeSpec := { name := "fnExactLayOrder", fn := fun _ => fun
  | [d1, d2] => { results := [.lit (.bool false)], args := [d1, d2] }
  | _ => none }
def FnExactLayOrderWrongFalsely : Prop := fnExactLayOrderRow.holds Try.pinned (OpenSpec.ofChange fnExactLayOrderWrong)

/- THE SECOND FORM. 'bulk': how many values and letters a reading holds, each counted each time it is reached (what is shared counts as often as it is met; a slice's spare places count too). A statement '..UptoSaid' is the law's where the arguments, and the package variables that the reading takes, are together of bulk at most 1048576: NARROWER than '..Said'. Prove '..Said' where nothing that the law and all that it calls make is longer than what came in: it says more and counts as full. Else prove '..UptoSaid'. A law counts once. -/
mutual
def uptoBulk {H : Type} : DataW H → Nat
  | .lit (.string bytes) => bytes.length + 1
  | .lit _ => 1
  | .nil => 1
  | .ptr d => uptoBulk d + 1
  | .slice elems spare => uptoBulkAll elems + uptoBulkAll spare + 1
  | .agg parts => uptoBulkAll parts + 1
  | .iface _ d => uptoBulk d + 1
  | .map entries => uptoBulkEntries entries + 1
  | .held _ => 1
def uptoBulkAll {H : Type} : List (DataW H) → Nat
  | [] => 0
  | d :: r => uptoBulk d + uptoBulkAll r
def uptoBulkEntries {H : Type} : List (Lit × DataW H) → Nat
  | [] => 0
  | x :: r => uptoBulkEntry x + uptoBulkEntries r
def uptoBulkEntry {H : Type} : Lit × DataW H → Nat
  | (.string bytes, d) => bytes.length + uptoBulk d + 1
  | (_, d) => uptoBulk d + 1
 end
def uptoSmall : (H : Type) → List (DataW H) → Bool := fun _ ds => decide (uptoBulkAll ds ≤ 1048576)
def OpenSpec.upto (s : _root_.Go.ChangeSpec) : _root_.Go.OpenSpec := { _root_.Go.OpenSpec.ofChange s with cond := some uptoSmall }

/-- 'laws.FnExactValidLevels', WHERE WHAT IT READS IS OF BULK AT MOST 1048576: true; the input reads as it did. -/
def fnExactValidLevelsUptoRow : OpenClaim := { program := "ytkdakpbkpfigeaa", sum := "f6194befdeb0fcbd45609d247ee12a3a868987db3b462f0290ee4dda608ea64b", func := "loop.example/g01383/laws.FnExactValidLevels", spec := "fnExactValidLevels", unfollowed := true, recurses := true, plainKeys := false, apart := false, narrowed := true }
def FnExactValidLevelsUptoSaid : Prop := fnExactValidLevelsUptoRow.holds Try.pinned (OpenSpec.upto fnExactValidLevelsSpec)

/-- 'laws.FnExactWorstTrip', WHERE WHAT IT READS IS OF BULK AT MOST 1048576: true; the input reads as it did. -/
def fnExactWorstTripUptoRow : OpenClaim := { program := "ytkdakpbkpfigeaa", sum := "f6194befdeb0fcbd45609d247ee12a3a868987db3b462f0290ee4dda608ea64b", func := "loop.example/g01383/laws.FnExactWorstTrip", spec := "fnExactWorstTrip", unfollowed := true, recurses := true, plainKeys := false, apart := false, narrowed := true }
def FnExactWorstTripUptoSaid : Prop := fnExactWorstTripUptoRow.holds Try.pinned (OpenSpec.upto fnExactWorstTripSpec)

/-- 'laws.FnExactLevelsAfter', WHERE WHAT IT READS IS OF BULK AT MOST 1048576: true; the input reads as it did. -/
def fnExactLevelsAfterUptoRow : OpenClaim := { program := "ytkdakpbkpfigeaa", sum := "f6194befdeb0fcbd45609d247ee12a3a868987db3b462f0290ee4dda608ea64b", func := "loop.example/g01383/laws.FnExactLevelsAfter", spec := "fnExactLevelsAfter", unfollowed := true, recurses := true, plainKeys := false, apart := false, narrowed := true }
def FnExactLevelsAfterUptoSaid : Prop := fnExactLevelsAfterUptoRow.holds Try.pinned (OpenSpec.upto fnExactLevelsAfterSpec)

/-- 'laws.FnExactFirstTrip', WHERE WHAT IT READS IS OF BULK AT MOST 1048576: true; the input reads as it did. -/
def fnExactFirstTripUptoRow : OpenClaim := { program := "ytkdakpbkpfigeaa", sum := "f6194befdeb0fcbd45609d247ee12a3a868987db3b462f0290ee4dda608ea64b", func := "loop.example/g01383/laws.FnExactFirstTrip", spec := "fnExactFirstTrip", unfollowed := true, recurses := true, plainKeys := false, apart := false, narrowed := true }
def FnExactFirstTripUptoSaid : Prop := fnExactFirstTripUptoRow.holds Try.pinned (OpenSpec.upto fnExactFirstTripSpec)

/-- 'laws.FnExactBesideSlab', WHERE WHAT IT READS IS OF BULK AT MOST 1048576: true; the input reads as it did. -/
def fnExactBesideSlabUptoRow : OpenClaim := { program := "ytkdakpbkpfigeaa", sum := "f6194befdeb0fcbd45609d247ee12a3a868987db3b462f0290ee4dda608ea64b", func := "loop.example/g01383/laws.FnExactBesideSlab", spec := "fnExactBesideSlab", unfollowed := true, recurses := true, plainKeys := false, apart := false, narrowed := true }
def FnExactBesideSlabUptoSaid : Prop := fnExactBesideSlabUptoRow.holds Try.pinned (OpenSpec.upto fnExactBesideSlabSpec)

/-- 'laws.FnExactFillWith', WHERE WHAT IT READS IS OF BULK AT MOST 1048576: true; the input reads as it did. -/
def fnExactFillWithUptoRow : OpenClaim := { program := "ytkdakpbkpfigeaa", sum := "f6194befdeb0fcbd45609d247ee12a3a868987db3b462f0290ee4dda608ea64b", func := "loop.example/g01383/laws.FnExactFillWith", spec := "fnExactFillWith", unfollowed := true, recurses := true, plainKeys := false, apart := false, narrowed := true }
def FnExactFillWithUptoSaid : Prop := fnExactFillWithUptoRow.holds Try.pinned (OpenSpec.upto fnExactFillWithSpec)

/-- 'laws.FnExactLayAll', WHERE WHAT IT READS IS OF BULK AT MOST 1048576: true; the input reads as it did. -/
def fnExactLayAllUptoRow : OpenClaim := { program := "ytkdakpbkpfigeaa", sum := "f6194befdeb0fcbd45609d247ee12a3a868987db3b462f0290ee4dda608ea64b", func := "loop.example/g01383/laws.FnExactLayAll", spec := "fnExactLayAll", unfollowed := true, recurses := true, plainKeys := false, apart := false, narrowed := true }
def FnExactLayAllUptoSaid : Prop := fnExactLayAllUptoRow.holds Try.pinned (OpenSpec.upto fnExactLayAllSpec)

/-- 'laws.FnExactMirrorGround', WHERE WHAT IT READS IS OF BULK AT MOST 1048576: true; the input reads as it did. -/
def fnExactMirrorGroundUptoRow : OpenClaim := { program := "ytkdakpbkpfigeaa", sum := "f6194befdeb0fcbd45609d247ee12a3a868987db3b462f0290ee4dda608ea64b", func := "loop.example/g01383/laws.FnExactMirrorGround", spec := "fnExactMirrorGround", unfollowed := true, recurses := true, plainKeys := false, apart := false, narrowed := true }
def FnExactMirrorGroundUptoSaid : Prop := fnExactMirrorGroundUptoRow.holds Try.pinned (OpenSpec.upto fnExactMirrorGroundSpec)

/-- 'laws.FnExactTwoBarrows', WHERE WHAT IT READS IS OF BULK AT MOST 1048576: true; the input reads as it did. -/
def fnExactTwoBarrowsUptoRow : OpenClaim := { program := "ytkdakpbkpfigeaa", sum := "f6194befdeb0fcbd45609d247ee12a3a868987db3b462f0290ee4dda608ea64b", func := "loop.example/g01383/laws.FnExactTwoBarrows", spec := "fnExactTwoBarrows", unfollowed := true, recurses := true, plainKeys := false, apart := false, narrowed := true }
def FnExactTwoBarrowsUptoSaid : Prop := fnExactTwoBarrowsUptoRow.holds Try.pinned (OpenSpec.upto fnExactTwoBarrowsSpec)

/-- 'laws.FnExactCountOrders', WHERE WHAT IT READS IS OF BULK AT MOST 1048576: true; the input reads as it did. -/
def fnExactCountOrdersUptoRow : OpenClaim := { program := "ytkdakpbkpfigeaa", sum := "f6194befdeb0fcbd45609d247ee12a3a868987db3b462f0290ee4dda608ea64b", func := "loop.example/g01383/laws.FnExactCountOrders", spec := "fnExactCountOrders", unfollowed := true, recurses := true, plainKeys := false, apart := false, narrowed := true }
def FnExactCountOrdersUptoSaid : Prop := fnExactCountOrdersUptoRow.holds Try.pinned (OpenSpec.upto fnExactCountOrdersSpec)

/-- 'laws.FnExactLayOrder', WHERE WHAT IT READS IS OF BULK AT MOST 1048576: true; the input reads as it did. -/
def fnExactLayOrderUptoRow : OpenClaim := { program := "ytkdakpbkpfigeaa", sum := "f6194befdeb0fcbd45609d247ee12a3a868987db3b462f0290ee4dda608ea64b", func := "loop.example/g01383/laws.FnExactLayOrder", spec := "fnExactLayOrder", unfollowed := true, recurses := true, plainKeys := false, apart := false, narrowed := true }
def FnExactLayOrderUptoSaid : Prop := fnExactLayOrderUptoRow.holds Try.pinned (OpenSpec.upto fnExactLayOrderSpec)

end Rows
end Go.Proofs.Ytkdakpbkpfigeaa
