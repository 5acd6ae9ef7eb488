/-
  No cell of these rows narrows 'for every input' (looked for: loops, veiled, ifaces, maps, wideKeys, modest, calm, conditions, laid).
  DERIVED. THE GIVEN ROWS OF THIS SEAT. 12 by the template 'for every input the law returns true; each argument reads behind the call as it read before'; 0 by the template 'total and deterministic' (their statements: YteebkookoidheaaTotals.lean).
  GIVEN WITH THE SEED: the statements are not yours to turn. If you find one false, say at which input.
  Laid BY PROGRAM, IN A SANDBOX (cutbox-rows.mjs): the forced cells as the released guide's own fill.sh prints them over the translation 28faac1b36e3d510… (all of the seat's roots in one cut). By AI agents, Wed Nov 11 2026. No macro, syntax, notation, axiom, sorry.
-/
import Derived.Test.YteebkookoidheaaChecked
import GoSem.Claim
import GoSem.ClaimJoined
import GoSem.ClaimMapViews
import Derived.JoinedTies
import Derived.KernelRfl
namespace Go.Proofs.Yteebkookoidheaa
/- THE CELL 'sum', in the pinned program and in every row, IS THE sha256 OF THE DUMP (.gsa) THAT YteebkookoidheaaProg.lean LOADS. Nothing in Lean hashes anything: it is a label: what it is worth is what the hold of that sum in a sandbox is worth. -/
noncomputable def Try.pinned : Pinned := { name := "yteebkookoidheaa", sum := "28faac1b36e3d5104f7950c3f30c18295e2aaa84d8478aa537aca975208ae97f", checked := Try.checked }
namespace Rows
def none {H : Type} : Left H := { results := [], args := [] }

/-- 'laws.FnExactLiftSlab': WHATEVER THE INPUT: true; the input reads as it did. -/
def fnExactLiftSlabSpec : ChangeSpec := { name := "fnExactLiftSlab", fn := fun _ => fun
  | [d1, d2] => { results := [.lit (.bool true)], args := [d1, d2] }
  | _ => none }
def fnExactLiftSlabRow : OpenClaim := { program := "yteebkookoidheaa", sum := "28faac1b36e3d5104f7950c3f30c18295e2aaa84d8478aa537aca975208ae97f", func := "loop.example/g01383/laws.FnExactLiftSlab", spec := "fnExactLiftSlab", unfollowed := true, recurses := true, plainKeys := false, apart := false }
def FnExactLiftSlabSaid : Prop := fnExactLiftSlabRow.holds Try.pinned (OpenSpec.ofChange fnExactLiftSlabSpec)

/-- ITS FALSE NEIGHBOUR: 'it returns false'. Refute it at one input. -/
def fnExactLiftSlabWrong : ChangeSpec := { name := "fnExactLiftSlab", fn := fun _ => fun
  | [d1, d2] => { results := [.lit (.bool false)], args := [d1, d2] }
  | _ => none }
def FnExactLiftSlabWrongFalsely : Prop := fnExactLiftSlabRow.holds Try.pinned (OpenSpec.ofChange fnExactLiftSlabWrong)

/-- 'laws.FnExactPutSlab': WHATEVER THE INPUT: true; the input reads as it did. -/
def fnExactPutSlabSpec : ChangeSpec := { name := "fnExactPutSlab", fn := fun _ => fun
  | [d1, d2] => { results := [.lit (.bool true)], args := [d1, d2] }
  | _ => none }
def fnExactPutSlabRow : OpenClaim := { program := "yteebkookoidheaa", sum := "28faac1b36e3d5104f7950c3f30c18295e2aaa84d8478aa537aca975208ae97f", func := "loop.example/g01383/laws.FnExactPutSlab", spec := "fnExactPutSlab", unfollowed := true, recurses := true, plainKeys := false, apart := false }
def FnExactPutSlabSaid : Prop := fnExactPutSlabRow.holds Try.pinned (OpenSpec.ofChange fnExactPutSlabSpec)

/-- ITS FALSE NEIGHBOUR: 'it returns false'. Refute it at one input. -/
def fnExactPutSlabWrong : ChangeSpec := { name := "fnExactPutSlab", fn := fun _ => fun
  | [d1, d2] => { results := [.lit (.bool false)], args := [d1, d2] }
  | _ => none }
def FnExactPutSlabWrongFalsely : Prop := fnExactPutSlabRow.holds Try.pinned (OpenSpec.ofChange fnExactPutSlabWrong)

/-- 'laws.FnExactTurnSquare': WHATEVER THE INPUT: true; the input reads as it did. -/
def fnExactTurnSquareSpec : ChangeSpec := { name := "fnExactTurnSquare", fn := fun _ => fun
  | [d] => { results := [.lit (.bool true)], args := [d] }
  | _ => none }
def fnExactTurnSquareRow : OpenClaim := { program := "yteebkookoidheaa", sum := "28faac1b36e3d5104f7950c3f30c18295e2aaa84d8478aa537aca975208ae97f", func := "loop.example/g01383/laws.FnExactTurnSquare", spec := "fnExactTurnSquare", unfollowed := true, recurses := true, plainKeys := false, apart := false }
def FnExactTurnSquareSaid : Prop := fnExactTurnSquareRow.holds Try.pinned (OpenSpec.ofChange fnExactTurnSquareSpec)

/-- ITS FALSE NEIGHBOUR: 'it returns false'. Refute it at one input. -/
def fnExactTurnSquareWrong : ChangeSpec := { name := "fnExactTurnSquare", fn := fun _ => fun
  | [d] => { results := [.lit (.bool false)], args := [d] }
  | _ => none }
def FnExactTurnSquareWrongFalsely : Prop := fnExactTurnSquareRow.holds Try.pinned (OpenSpec.ofChange fnExactTurnSquareWrong)

/-- 'laws.FnExactMirrorSquare': WHATEVER THE INPUT: true; the input reads as it did. -/
def fnExactMirrorSquareSpec : ChangeSpec := { name := "fnExactMirrorSquare", fn := fun _ => fun
  | [d] => { results := [.lit (.bool true)], args := [d] }
  | _ => none }
def fnExactMirrorSquareRow : OpenClaim := { program := "yteebkookoidheaa", sum := "28faac1b36e3d5104f7950c3f30c18295e2aaa84d8478aa537aca975208ae97f", func := "loop.example/g01383/laws.FnExactMirrorSquare", spec := "fnExactMirrorSquare", unfollowed := true, recurses := true, plainKeys := false, apart := false }
def FnExactMirrorSquareSaid : Prop := fnExactMirrorSquareRow.holds Try.pinned (OpenSpec.ofChange fnExactMirrorSquareSpec)

/-- ITS FALSE NEIGHBOUR: 'it returns false'. Refute it at one input. -/
def fnExactMirrorSquareWrong : ChangeSpec := { name := "fnExactMirrorSquare", fn := fun _ => fun
  | [d] => { results := [.lit (.bool false)], args := [d] }
  | _ => none }
def FnExactMirrorSquareWrongFalsely : Prop := fnExactMirrorSquareRow.holds Try.pinned (OpenSpec.ofChange fnExactMirrorSquareWrong)

/-- 'laws.FnExactCutSquare': WHATEVER THE INPUT: true; the input reads as it did. -/
def fnExactCutSquareSpec : ChangeSpec := { name := "fnExactCutSquare", fn := fun _ => fun
  | [d1, d2] => { results := [.lit (.bool true)], args := [d1, d2] }
  | _ => none }
def fnExactCutSquareRow : OpenClaim := { program := "yteebkookoidheaa", sum := "28faac1b36e3d5104f7950c3f30c18295e2aaa84d8478aa537aca975208ae97f", func := "loop.example/g01383/laws.FnExactCutSquare", spec := "fnExactCutSquare", unfollowed := true, recurses := true, plainKeys := false, apart := false }
def FnExactCutSquareSaid : Prop := fnExactCutSquareRow.holds Try.pinned (OpenSpec.ofChange fnExactCutSquareSpec)

/-- ITS FALSE NEIGHBOUR: 'it returns false'. Refute it at one input. -/
def fnExactCutSquareWrong : ChangeSpec := { name := "fnExactCutSquare", fn := fun _ => fun
  | [d1, d2] => { results := [.lit (.bool false)], args := [d1, d2] }
  | _ => none }
def FnExactCutSquareWrongFalsely : Prop := fnExactCutSquareRow.holds Try.pinned (OpenSpec.ofChange fnExactCutSquareWrong)

/-- 'laws.FnExactFillWith': WHATEVER THE INPUT: true; the input reads as it did. -/
def fnExactFillWithSpec : ChangeSpec := { name := "fnExactFillWith", fn := fun _ => fun
  | [d1, d2, d3] => { results := [.lit (.bool true)], args := [d1, d2, d3] }
  | _ => none }
def fnExactFillWithRow : OpenClaim := { program := "yteebkookoidheaa", sum := "28faac1b36e3d5104f7950c3f30c18295e2aaa84d8478aa537aca975208ae97f", func := "loop.example/g01383/laws.FnExactFillWith", spec := "fnExactFillWith", unfollowed := true, recurses := true, plainKeys := false, apart := false }
def FnExactFillWithSaid : Prop := fnExactFillWithRow.holds Try.pinned (OpenSpec.ofChange fnExactFillWithSpec)

/-- ITS FALSE NEIGHBOUR: 'it returns false'. Refute it at one input. -/
def fnExactFillWithWrong : ChangeSpec := { name := "fnExactFillWith", fn := fun _ => fun
  | [d1, d2, d3] => { results := [.lit (.bool false)], args := [d1, d2, d3] }
  | _ => none }
def FnExactFillWithWrongFalsely : Prop := fnExactFillWithRow.holds Try.pinned (OpenSpec.ofChange fnExactFillWithWrong)

/-- 'laws.FnExactBesideSlab': WHATEVER THE INPUT: true; the input reads as it did. -/
def fnExactBesideSlabSpec : ChangeSpec := { name := "fnExactBesideSlab", fn := fun _ => fun
  | [d1, d2] => { results := [.lit (.bool true)], args := [d1, d2] }
  | _ => none }
def fnExactBesideSlabRow : OpenClaim := { program := "yteebkookoidheaa", sum := "28faac1b36e3d5104f7950c3f30c18295e2aaa84d8478aa537aca975208ae97f", func := "loop.example/g01383/laws.FnExactBesideSlab", spec := "fnExactBesideSlab", unfollowed := true, recurses := true, plainKeys := false, apart := false }
def FnExactBesideSlabSaid : Prop := fnExactBesideSlabRow.holds Try.pinned (OpenSpec.ofChange fnExactBesideSlabSpec)

/-- ITS FALSE NEIGHBOUR: 'it returns false'. Refute it at one input. -/
def fnExactBesideSlabWrong : ChangeSpec := { name := "fnExactBesideSlab", fn := fun _ => fun
  | [d1, d2] => { results := [.lit (.bool false)], args := [d1, d2] }
  | _ => none }
def FnExactBesideSlabWrongFalsely : Prop := fnExactBesideSlabRow.holds Try.pinned (OpenSpec.ofChange fnExactBesideSlabWrong)

/-- 'laws.FnExactPiecesOf': WHATEVER THE INPUT: true; the input reads as it did. -/
def fnExactPiecesOfSpec : ChangeSpec := { name := "fnExactPiecesOf", fn := fun _ => fun
  | [d] => { results := [.lit (.bool true)], args := [d] }
  | _ => none }
def fnExactPiecesOfRow : OpenClaim := { program := "yteebkookoidheaa", sum := "28faac1b36e3d5104f7950c3f30c18295e2aaa84d8478aa537aca975208ae97f", func := "loop.example/g01383/laws.FnExactPiecesOf", spec := "fnExactPiecesOf", unfollowed := true, recurses := true, plainKeys := false, apart := false }
def FnExactPiecesOfSaid : Prop := fnExactPiecesOfRow.holds Try.pinned (OpenSpec.ofChange fnExactPiecesOfSpec)

/-- ITS FALSE NEIGHBOUR: 'it returns false'. Refute it at one input. -/
def fnExactPiecesOfWrong : ChangeSpec := { name := "fnExactPiecesOf", fn := fun _ => fun
  | [d] => { results := [.lit (.bool false)], args := [d] }
  | _ => none }
def FnExactPiecesOfWrongFalsely : Prop := fnExactPiecesOfRow.holds Try.pinned (OpenSpec.ofChange fnExactPiecesOfWrong)

/-- 'laws.FnExactSizesIn': WHATEVER THE INPUT: true; the input reads as it did. -/
def fnExactSizesInSpec : ChangeSpec := { name := "fnExactSizesIn", fn := fun _ => fun
  | [d] => { results := [.lit (.bool true)], args := [d] }
  | _ => none }
def fnExactSizesInRow : OpenClaim := { program := "yteebkookoidheaa", sum := "28faac1b36e3d5104f7950c3f30c18295e2aaa84d8478aa537aca975208ae97f", func := "loop.example/g01383/laws.FnExactSizesIn", spec := "fnExactSizesIn", unfollowed := true, recurses := true, plainKeys := false, apart := false }
def FnExactSizesInSaid : Prop := fnExactSizesInRow.holds Try.pinned (OpenSpec.ofChange fnExactSizesInSpec)

/-- ITS FALSE NEIGHBOUR: 'it returns false'. Refute it at one input. -/
def fnExactSizesInWrong : ChangeSpec := { name := "fnExactSizesIn", fn := fun _ => fun
  | [d] => { results := [.lit (.bool false)], args := [d] }
  | _ => none }
def FnExactSizesInWrongFalsely : Prop := fnExactSizesInRow.holds Try.pinned (OpenSpec.ofChange fnExactSizesInWrong)

/-- 'laws.FnExactSquareText': WHATEVER THE INPUT: true; the input reads as it did. -/
def fnExactSquareTextSpec : ChangeSpec := { name := "fnExactSquareText", fn := fun _ => fun
  | [d] => { results := [.lit (.bool true)], args := [d] }
  | _ => none }
def fnExactSquareTextRow : OpenClaim := { program := "yteebkookoidheaa", sum := "28faac1b36e3d5104f7950c3f30c18295e2aaa84d8478aa537aca975208ae97f", func := "loop.example/g01383/laws.FnExactSquareText", spec := "fnExactSquareText", inPlace := ["internal/abi.NoEscape"], unfollowed := true, recurses := true, plainKeys := false, apart := false }
def FnExactSquareTextSaid : Prop := fnExactSquareTextRow.holds Try.pinned (OpenSpec.ofChange fnExactSquareTextSpec)

/-- ITS FALSE NEIGHBOUR: 'it returns false'. Refute it at one input. -/
def fnExactSquareTextWrong : ChangeSpec := { name := "fnExactSquareText", fn := fun _ => fun
  | [d] => { results := [.lit (.bool false)], args := [d] }
  | _ => none }
def FnExactSquareTextWrongFalsely : Prop := fnExactSquareTextRow.holds Try.pinned (OpenSpec.ofChange fnExactSquareTextWrong)

/-- 'laws.FnExactReadSquare': WHATEVER THE INPUT: true; the input reads as it did. -/
def fnExactReadSquareSpec : ChangeSpec := { name := "fnExactReadSquare", fn := fun _ => fun
  | [d] => { results := [.lit (.bool true)], args := [d] }
  | _ => none }
def fnExactReadSquareRow : OpenClaim := { program := "yteebkookoidheaa", sum := "28faac1b36e3d5104f7950c3f30c18295e2aaa84d8478aa537aca975208ae97f", func := "loop.example/g01383/laws.FnExactReadSquare", spec := "fnExactReadSquare", inPlace := ["internal/bytealg.IndexByteString"], unfollowed := true, recurses := true, plainKeys := false, apart := false }
def FnExactReadSquareSaid : Prop := fnExactReadSquareRow.holds Try.pinned (OpenSpec.ofChange fnExactReadSquareSpec)

/-- ITS FALSE NEIGHBOUR: 'it returns false'. Refute it at one input. -/
def fnExactReadSquareWrong : ChangeSpec := { name := "fnExactReadSquare", fn := fun _ => fun
  | [d] => { results := [.lit (.bool false)], args := [d] }
  | _ => none }
def FnExactReadSquareWrongFalsely : Prop := fnExactReadSquareRow.holds Try.pinned (OpenSpec.ofChange fnExactReadSquareWrong)

/-- 'laws.FnTurned': WHATEVER THE INPUT: true; the input reads as it did. -/
def fnTurnedSpec : ChangeSpec := { name := "fnTurned", fn := fun _ => fun
  | [d1, d2] => { results := [.lit (.bool true)], args := [d1, d2] }
  | _ => none }
def fnTurnedRow : OpenClaim := { program := "yteebkookoidheaa", sum := "28faac1b36e3d5104f7950c3f30c18295e2aaa84d8478aa537aca975208ae97f", func := "loop.example/g01383/laws.FnTurned", spec := "fnTurned", unfollowed := true, recurses := true, plainKeys := false, apart := false }
def FnTurnedSaid : Prop := fnTurnedRow.holds Try.pinned (OpenSpec.ofChange fnTurnedSpec)

/-- ITS FALSE NEIGHBOUR: 'it returns false'. Refute it at one input. -/
def fnTurnedWrong : ChangeSpec := { name := "fnTurned", fn := fun _ => fun
  | [d1, d2] => { results := [.lit (.bool false)], args := [d1, d2] }
  | _ => none }
def FnTurnedWrongFalsely : Prop := fnTurnedRow.holds Try.pinned (OpenSpec.ofChange fnTurnedWrong)

/- THE SECOND FORM. 'bulk': how many values and letters a reading holds, each counted each time it is reached (what is shared counts as often as it is met; a slice's spare places count too). A statement '..UptoSaid' is the law's where the arguments, and the package variables that the reading takes, are together of bulk at most 1048576: NARROWER than '..Said'. Prove '..Said' where nothing that the law and all that it calls make is longer than what came in: it says more and counts as full. Else prove '..UptoSaid'. A law counts once. -/
mutual
def uptoBulk {H : Type} : DataW H → Nat
  | .lit (.string bytes) => bytes.length + 1
  | .lit _ => 1
  | .nil => 1
  | .ptr d => uptoBulk d + 1
  | .slice elems spare => uptoBulkAll elems + uptoBulkAll spare + 1
  | .agg parts => uptoBulkAll parts + 1
  | .iface _ d => uptoBulk d + 1
  | .map entries => uptoBulkEntries entries + 1
  | .held _ => 1
def uptoBulkAll {H : Type} : List (DataW H) → Nat
  | [] => 0
  | d :: r => uptoBulk d + uptoBulkAll r
def uptoBulkEntries {H : Type} : List (Lit × DataW H) → Nat
  | [] => 0
  | x :: r => uptoBulkEntry x + uptoBulkEntries r
def uptoBulkEntry {H : Type} : Lit × DataW H → Nat
  | (.string bytes, d) => bytes.length + uptoBulk d + 1
  | (_, d) => uptoBulk d + 1
 end
def uptoSmall : (H : Type) → List (DataW H) → Bool := fun _ ds => decide (uptoBulkAll ds ≤ 1048576)
def OpenSpec.upto (s : _root_.Go.ChangeSpec) : _root_.Go.OpenSpec := { _root_.Go.OpenSpec.ofChange s with cond := some uptoSmall }

/-- 'laws.FnExactLiftSlab', WHERE WHAT IT READS IS OF BULK AT MOST 1048576: true; the input reads as it did. -/
def fnExactLiftSlabUptoRow : OpenClaim := { program := "yteebkookoidheaa", sum := "28faac1b36e3d5104f7950c3f30c18295e2aaa84d8478aa537aca975208ae97f", func := "loop.example/g01383/laws.FnExactLiftSlab", spec := "fnExactLiftSlab", unfollowed := true, recurses := true, plainKeys := false, apart := false, narrowed := true }
def FnExactLiftSlabUptoSaid : Prop := fnExactLiftSlabUptoRow.holds Try.pinned (OpenSpec.upto fnExactLiftSlabSpec)

/-- 'laws.FnExactPutSlab', WHERE WHAT IT READS IS OF BULK AT MOST 1048576: true; the input reads as it did. -/
def fnExactPutSlabUptoRow : OpenClaim := { program := "yteebkookoidheaa", sum := "28faac1b36e3d5104f7950c3f30c18295e2aaa84d8478aa537aca975208ae97f", func := "loop.example/g01383/laws.FnExactPutSlab", spec := "fnExactPutSlab", unfollowed := true, recurses := true, plainKeys := false, apart := false, narrowed := true }
def FnExactPutSlabUptoSaid : Prop := fnExactPutSlabUptoRow.holds Try.pinned (OpenSpec.upto fnExactPutSlabSpec)

/-- 'laws.FnExactTurnSquare', WHERE WHAT IT READS IS OF BULK AT MOST 1048576: true; the input reads as it did. -/
def fnExactTurnSquareUptoRow : OpenClaim := { program := "yteebkookoidheaa", sum := "28faac1b36e3d5104f7950c3f30c18295e2aaa84d8478aa537aca975208ae97f", func := "loop.example/g01383/laws.FnExactTurnSquare", spec := "fnExactTurnSquare", unfollowed := true, recurses := true, plainKeys := false, apart := false, narrowed := true }
def FnExactTurnSquareUptoSaid : Prop := fnExactTurnSquareUptoRow.holds Try.pinned (OpenSpec.upto fnExactTurnSquareSpec)

/-- 'laws.FnExactMirrorSquare', WHERE WHAT IT READS IS OF BULK AT MOST 1048576: true; the input reads as it did. -/
def fnExactMirrorSquareUptoRow : OpenClaim := { program := "yteebkookoidheaa", sum := "28faac1b36e3d5104f7950c3f30c18295e2aaa84d8478aa537aca975208ae97f", func := "loop.example/g01383/laws.FnExactMirrorSquare", spec := "fnExactMirrorSquare", unfollowed := true, recurses := true, plainKeys := false, apart := false, narrowed := true }
def FnExactMirrorSquareUptoSaid : Prop := fnExactMirrorSquareUptoRow.holds Try.pinned (OpenSpec.upto fnExactMirrorSquareSpec)

/-- 'laws.FnExactCutSquare', WHERE WHAT IT READS IS OF BULK AT MOST 1048576: true; the input reads as it did. -/
def fnExactCutSquareUptoRow : OpenClaim := { program := "yteebkookoidheaa", sum := "28faac1b36e3d5104f7950c3f30c18295e2aaa84d8478aa537aca975208ae97f", func := "loop.example/g01383/laws.FnExactCutSquare", spec := "fnExactCutSquare", unfollowed := true, recurses := true, plainKeys := false, apart := false, narrowed := true }
def FnExactCutSquareUptoSaid : Prop := fnExactCutSquareUptoRow.holds Try.pinned (OpenSpec.upto fnExactCutSquareSpec)

/-- 'laws.FnExactFillWith', WHERE WHAT IT READS IS OF BULK AT MOST 1048576: true; the input reads as it did. -/
def fnExactFillWithUptoRow : OpenClaim := { program := "yteebkookoidheaa", sum := "28faac1b36e3d5104f7950c3f30c18295e2aaa84d8478aa537aca975208ae97f", func := "loop.example/g01383/laws.FnExactFillWith", spec := "fnExactFillWith", unfollowed := true, recurses := true, plainKeys := false, apart := false, narrowed := true }
def FnExactFillWithUptoSaid : Prop := fnExactFillWithUptoRow.holds Try.pinned (OpenSpec.upto fnExactFillWithSpec)

/-- 'laws.FnExactBesideSlab', WHERE WHAT IT READS IS OF BULK AT MOST 1048576: true; the input reads as it did. -/
def fnExactBesideSlabUptoRow : OpenClaim := { program := "yteebkookoidheaa", sum := "28faac1b36e3d5104f7950c3f30c18295e2aaa84d8478aa537aca975208ae97f", func := "loop.example/g01383/laws.FnExactBesideSlab", spec := "fnExactBesideSlab", unfollowed := true, recurses := true, plainKeys := false, apart := false, narrowed := true }
def FnExactBesideSlabUptoSaid : Prop := fnExactBesideSlabUptoRow.holds Try.pinned (OpenSpec.upto fnExactBesideSlabSpec)

/-- 'laws.FnExactPiecesOf', WHERE WHAT IT READS IS OF BULK AT MOST 1048576: true; the input reads as it did. -/
def fnExactPiecesOfUptoRow : OpenClaim := { program := "yteebkookoidheaa", sum := "28faac1b36e3d5104f7950c3f30c18295e2aaa84d8478aa537aca975208ae97f", func := "loop.example/g01383/laws.FnExactPiecesOf", spec := "fnExactPiecesOf", unfollowed := true, recurses := true, plainKeys := false, apart := false, narrowed := true }
def FnExactPiecesOfUptoSaid : Prop := fnExactPiecesOfUptoRow.holds Try.pinned (OpenSpec.upto fnExactPiecesOfSpec)

/-- 'laws.FnExactSizesIn', WHERE WHAT IT READS IS OF BULK AT MOST 1048576: true; the input reads as it did. -/
def fnExactSizesInUptoRow : OpenClaim := { program := "yteebkookoidheaa", sum := "28faac1b36e3d5104f7950c3f30c18295e2aaa84d8478aa537aca975208ae97f", func := "loop.example/g01383/laws.FnExactSizesIn", spec := "fnExactSizesIn", unfollowed := true, recurses := true, plainKeys := false, apart := false, narrowed := true }
def FnExactSizesInUptoSaid : Prop := fnExactSizesInUptoRow.holds Try.pinned (OpenSpec.upto fnExactSizesInSpec)

/-- 'laws.FnExactSquareText', WHERE WHAT IT READS IS OF BULK AT MOST 1048576: true; the input reads as it did. -/
def fnExactSquareTextUptoRow : OpenClaim := { program := "yteebkookoidheaa", sum := "28faac1b36e3d5104f7950c3f30c18295e2aaa84d8478aa537aca975208ae97f", func := "loop.example/g01383/laws.FnExactSquareText", spec := "fnExactSquareText", inPlace := ["internal/abi.NoEscape"], unfollowed := true, recurses := true, plainKeys := false, apart := false, narrowed := true }
def FnExactSquareTextUptoSaid : Prop := fnExactSquareTextUptoRow.holds Try.pinned (OpenSpec.upto fnExactSquareTextSpec)

/-- 'laws.FnExactReadSquare', WHERE WHAT IT READS IS OF BULK AT MOST 1048576: true; the input reads as it did. -/
def fnExactReadSquareUptoRow : OpenClaim := { program := "yteebkookoidheaa", sum := "28faac1b36e3d5104f7950c3f30c18295e2aaa84d8478aa537aca975208ae97f", func := "loop.example/g01383/laws.FnExactReadSquare", spec := "fnExactReadSquare", inPlace := ["internal/bytealg.IndexByteString"], unfollowed := true, recurses := true, plainKeys := false, apart := false, narrowed := true }
def FnExactReadSquareUptoSaid : Prop := fnExactReadSquareUptoRow.holds Try.pinned (OpenSpec.upto fnExactReadSquareSpec)

/-- 'laws.FnTurned', WHERE WHAT IT READS IS OF BULK AT MOST 1048576: true; the input reads as it did. -/
def fnTurnedUptoRow : OpenClaim := { program := "yteebkookoidheaa", sum := "28faac1b36e3d5104f7950c3f30c18295e2aaa84d8478aa537aca975208ae97f", func := "loop.example/g01383/laws.FnTurned", spec := "fnTurned", unfollowed := true, recurses := true, plainKeys := false, apart := false, narrowed := true }
def FnTurnedUptoSaid : Prop := fnTurnedUptoRow.holds Try.pinned (OpenSpec.upto fnTurnedSpec)

end Rows
end Go.Proofs.Yteebkookoidheaa
