/-
  No cell of these rows narrows 'for every input' (looked for: loops, veiled, ifaces, maps, wideKeys, modest, calm, conditions, laid).
  DERIVED. THE GIVEN ROWS OF THIS SEAT. 21 by the template 'for every input the law returns true; each argument reads behind the call as it read before'; 0 by the template 'total and deterministic' (their statements: YtjeccdmhpbaabaaTotals.lean).
  GIVEN WITH THE SEED: the statements are not yours to turn. If you find one false, say at which input.
  Laid BY PROGRAM, IN A SANDBOX (cutbox-rows.mjs): the forced cells as the released guide's own fill.sh prints them over the translation 22760057e83ceb36… (all of the seat's roots in one cut). By AI agents, Wed Nov 11 2026. No macro, syntax, notation, axiom, sorry.
-/
import Derived.Test.YtjeccdmhpbaabaaChecked
import GoSem.Claim
import GoSem.ClaimJoined
import GoSem.ClaimMapViews
import Derived.JoinedTies
import Derived.KernelRfl
namespace Go.Proofs.Ytjeccdmhpbaabaa
/- THE CELL 'sum', in the pinned program and in every row, IS THE sha256 OF THE DUMP (.gsa) THAT YtjeccdmhpbaabaaProg.lean LOADS. Nothing in Lean hashes anything: it is a label: what it is worth is what the hold of that sum in a sandbox is worth. -/
noncomputable def Try.pinned : Pinned := { name := "ytjeccdmhpbaabaa", sum := "22760057e83ceb36d7d87b85ca6997b6bd6321277b4cab4caa2acff13feb6aff", checked := Try.checked }
namespace Rows
def none {H : Type} : Left H := { results := [], args := [] }

/-- 'laws.FnExactValidSetts': WHATEVER THE INPUT: true; the input reads as it did. -/
def fnExactValidSettsSpec : ChangeSpec := { name := "fnExactValidSetts", fn := fun _ => fun
  | [d] => { results := [.lit (.bool true)], args := [d] }
  | _ => none }
def fnExactValidSettsRow : OpenClaim := { program := "ytjeccdmhpbaabaa", sum := "22760057e83ceb36d7d87b85ca6997b6bd6321277b4cab4caa2acff13feb6aff", func := "loop.example/g01383/laws.FnExactValidSetts", spec := "fnExactValidSetts", plainKeys := false, apart := false }
def FnExactValidSettsSaid : Prop := fnExactValidSettsRow.holds Try.pinned (OpenSpec.ofChange fnExactValidSettsSpec)

/-- ITS FALSE NEIGHBOUR: 'it returns false'. Refute it at one input. -/
def fnExactValidSettsWrong : ChangeSpec := { name := "fnExactValidSetts", fn := fun _ => fun
  | [d] => { results := [.lit (.bool false)], args := [d] }
  | _ => none }
def FnExactValidSettsWrongFalsely : Prop := fnExactValidSettsRow.holds Try.pinned (OpenSpec.ofChange fnExactValidSettsWrong)

/-- 'laws.FnExactValidBow': WHATEVER THE INPUT: true; the input reads as it did. -/
def fnExactValidBowSpec : ChangeSpec := { name := "fnExactValidBow", fn := fun _ => fun
  | [d] => { results := [.lit (.bool true)], args := [d] }
  | _ => none }
def fnExactValidBowRow : OpenClaim := { program := "ytjeccdmhpbaabaa", sum := "22760057e83ceb36d7d87b85ca6997b6bd6321277b4cab4caa2acff13feb6aff", func := "loop.example/g01383/laws.FnExactValidBow", spec := "fnExactValidBow", unfollowed := true, recurses := true, plainKeys := false, apart := false }
def FnExactValidBowSaid : Prop := fnExactValidBowRow.holds Try.pinned (OpenSpec.ofChange fnExactValidBowSpec)

/-- ITS FALSE NEIGHBOUR: 'it returns false'. Refute it at one input. -/
def fnExactValidBowWrong : ChangeSpec := { name := "fnExactValidBow", fn := fun _ => fun
  | [d] => { results := [.lit (.bool false)], args := [d] }
  | _ => none }
def FnExactValidBowWrongFalsely : Prop := fnExactValidBowRow.holds Try.pinned (OpenSpec.ofChange fnExactValidBowWrong)

/-- 'laws.FnExactMakeBow': WHATEVER THE INPUT: true; the input reads as it did. -/
def fnExactMakeBowSpec : ChangeSpec := { name := "fnExactMakeBow", fn := fun _ => fun
  | [d1, d2] => { results := [.lit (.bool true)], args := [d1, d2] }
  | _ => none }
def fnExactMakeBowRow : OpenClaim := { program := "ytjeccdmhpbaabaa", sum := "22760057e83ceb36d7d87b85ca6997b6bd6321277b4cab4caa2acff13feb6aff", func := "loop.example/g01383/laws.FnExactMakeBow", spec := "fnExactMakeBow", unfollowed := true, recurses := true, plainKeys := false, apart := false }
def FnExactMakeBowSaid : Prop := fnExactMakeBowRow.holds Try.pinned (OpenSpec.ofChange fnExactMakeBowSpec)

/-- ITS FALSE NEIGHBOUR: 'it returns false'. Refute it at one input. -/
def fnExactMakeBowWrong : ChangeSpec := { name := "fnExactMakeBow", fn := fun _ => fun
  | [d1, d2] => { results := [.lit (.bool false)], args := [d1, d2] }
  | _ => none }
def FnExactMakeBowWrongFalsely : Prop := fnExactMakeBowRow.holds Try.pinned (OpenSpec.ofChange fnExactMakeBowWrong)

/-- 'laws.FnExactBowFrom': WHATEVER THE INPUT: true; the input reads as it did. -/
def fnExactBowFromSpec : ChangeSpec := { name := "fnExactBowFrom", fn := fun _ => fun
  | [d] => { results := [.lit (.bool true)], args := [d] }
  | _ => none }
def fnExactBowFromRow : OpenClaim := { program := "ytjeccdmhpbaabaa", sum := "22760057e83ceb36d7d87b85ca6997b6bd6321277b4cab4caa2acff13feb6aff", func := "loop.example/g01383/laws.FnExactBowFrom", spec := "fnExactBowFrom", unfollowed := true, recurses := true, plainKeys := false, apart := false }
def FnExactBowFromSaid : Prop := fnExactBowFromRow.holds Try.pinned (OpenSpec.ofChange fnExactBowFromSpec)

/-- ITS FALSE NEIGHBOUR: 'it returns false'. Refute it at one input. -/
def fnExactBowFromWrong : ChangeSpec := { name := "fnExactBowFrom", fn := fun _ => fun
  | [d] => { results := [.lit (.bool false)], args := [d] }
  | _ => none }
def FnExactBowFromWrongFalsely : Prop := fnExactBowFromRow.holds Try.pinned (OpenSpec.ofChange fnExactBowFromWrong)

/-- 'laws.FnExactTopsOf': WHATEVER THE INPUT: true; the input reads as it did. -/
def fnExactTopsOfSpec : ChangeSpec := { name := "fnExactTopsOf", fn := fun _ => fun
  | [d] => { results := [.lit (.bool true)], args := [d] }
  | _ => none }
def fnExactTopsOfRow : OpenClaim := { program := "ytjeccdmhpbaabaa", sum := "22760057e83ceb36d7d87b85ca6997b6bd6321277b4cab4caa2acff13feb6aff", func := "loop.example/g01383/laws.FnExactTopsOf", spec := "fnExactTopsOf", unfollowed := true, recurses := true, plainKeys := false, apart := false }
def FnExactTopsOfSaid : Prop := fnExactTopsOfRow.holds Try.pinned (OpenSpec.ofChange fnExactTopsOfSpec)

/-- ITS FALSE NEIGHBOUR: 'it returns false'. Refute it at one input. -/
def fnExactTopsOfWrong : ChangeSpec := { name := "fnExactTopsOf", fn := fun _ => fun
  | [d] => { results := [.lit (.bool false)], args := [d] }
  | _ => none }
def FnExactTopsOfWrongFalsely : Prop := fnExactTopsOfRow.holds Try.pinned (OpenSpec.ofChange fnExactTopsOfWrong)

/-- 'laws.FnExactOffsetBow': WHATEVER THE INPUT: true; the input reads as it did. -/
def fnExactOffsetBowSpec : ChangeSpec := { name := "fnExactOffsetBow", fn := fun _ => fun
  | [d] => { results := [.lit (.bool true)], args := [d] }
  | _ => none }
def fnExactOffsetBowRow : OpenClaim := { program := "ytjeccdmhpbaabaa", sum := "22760057e83ceb36d7d87b85ca6997b6bd6321277b4cab4caa2acff13feb6aff", func := "loop.example/g01383/laws.FnExactOffsetBow", spec := "fnExactOffsetBow", unfollowed := true, recurses := true, plainKeys := false, apart := false }
def FnExactOffsetBowSaid : Prop := fnExactOffsetBowRow.holds Try.pinned (OpenSpec.ofChange fnExactOffsetBowSpec)

/-- ITS FALSE NEIGHBOUR: 'it returns false'. Refute it at one input. -/
def fnExactOffsetBowWrong : ChangeSpec := { name := "fnExactOffsetBow", fn := fun _ => fun
  | [d] => { results := [.lit (.bool false)], args := [d] }
  | _ => none }
def FnExactOffsetBowWrongFalsely : Prop := fnExactOffsetBowRow.holds Try.pinned (OpenSpec.ofChange fnExactOffsetBowWrong)

/-- 'laws.FnExactTurnRow': WHATEVER THE INPUT: true; the input reads as it did. -/
def fnExactTurnRowSpec : ChangeSpec := { name := "fnExactTurnRow", fn := fun _ => fun
  | [d1, d2] => { results := [.lit (.bool true)], args := [d1, d2] }
  | _ => none }
def fnExactTurnRowRow : OpenClaim := { program := "ytjeccdmhpbaabaa", sum := "22760057e83ceb36d7d87b85ca6997b6bd6321277b4cab4caa2acff13feb6aff", func := "loop.example/g01383/laws.FnExactTurnRow", spec := "fnExactTurnRow", unfollowed := true, recurses := true, plainKeys := false, apart := false }
def FnExactTurnRowSaid : Prop := fnExactTurnRowRow.holds Try.pinned (OpenSpec.ofChange fnExactTurnRowSpec)

/-- ITS FALSE NEIGHBOUR: 'it returns false'. Refute it at one input. -/
def fnExactTurnRowWrong : ChangeSpec := { name := "fnExactTurnRow", fn := fun _ => fun
  | [d1, d2] => { results := [.lit (.bool false)], args := [d1, d2] }
  | _ => none }
def FnExactTurnRowWrongFalsely : Prop := fnExactTurnRowRow.holds Try.pinned (OpenSpec.ofChange fnExactTurnRowWrong)

/-- 'laws.FnExactJointsOf': WHATEVER THE INPUT: true; the input reads as it did. -/
def fnExactJointsOfSpec : ChangeSpec := { name := "fnExactJointsOf", fn := fun _ => fun
  | [d1, d2] => { results := [.lit (.bool true)], args := [d1, d2] }
  | _ => none }
def fnExactJointsOfRow : OpenClaim := { program := "ytjeccdmhpbaabaa", sum := "22760057e83ceb36d7d87b85ca6997b6bd6321277b4cab4caa2acff13feb6aff", func := "loop.example/g01383/laws.FnExactJointsOf", spec := "fnExactJointsOf", unfollowed := true, recurses := true, plainKeys := false, apart := false }
def FnExactJointsOfSaid : Prop := fnExactJointsOfRow.holds Try.pinned (OpenSpec.ofChange fnExactJointsOfSpec)

/-- ITS FALSE NEIGHBOUR: 'it returns false'. Refute it at one input. -/
def fnExactJointsOfWrong : ChangeSpec := { name := "fnExactJointsOf", fn := fun _ => fun
  | [d1, d2] => { results := [.lit (.bool false)], args := [d1, d2] }
  | _ => none }
def FnExactJointsOfWrongFalsely : Prop := fnExactJointsOfRow.holds Try.pinned (OpenSpec.ofChange fnExactJointsOfWrong)

/-- 'laws.FnExactCommonJoints': WHATEVER THE INPUT: true; the input reads as it did. -/
def fnExactCommonJointsSpec : ChangeSpec := { name := "fnExactCommonJoints", fn := fun _ => fun
  | [d1, d2, d3] => { results := [.lit (.bool true)], args := [d1, d2, d3] }
  | _ => none }
def fnExactCommonJointsRow : OpenClaim := { program := "ytjeccdmhpbaabaa", sum := "22760057e83ceb36d7d87b85ca6997b6bd6321277b4cab4caa2acff13feb6aff", func := "loop.example/g01383/laws.FnExactCommonJoints", spec := "fnExactCommonJoints", unfollowed := true, recurses := true, plainKeys := false, apart := false }
def FnExactCommonJointsSaid : Prop := fnExactCommonJointsRow.holds Try.pinned (OpenSpec.ofChange fnExactCommonJointsSpec)

/-- ITS FALSE NEIGHBOUR: 'it returns false'. Refute it at one input. -/
def fnExactCommonJointsWrong : ChangeSpec := { name := "fnExactCommonJoints", fn := fun _ => fun
  | [d1, d2, d3] => { results := [.lit (.bool false)], args := [d1, d2, d3] }
  | _ => none }
def FnExactCommonJointsWrongFalsely : Prop := fnExactCommonJointsRow.holds Try.pinned (OpenSpec.ofChange fnExactCommonJointsWrong)

/-- 'laws.FnExactLayRow': WHATEVER THE INPUT: true; the input reads as it did. -/
def fnExactLayRowSpec : ChangeSpec := { name := "fnExactLayRow", fn := fun _ => fun
  | [d1, d2] => { results := [.lit (.bool true)], args := [d1, d2] }
  | _ => none }
def fnExactLayRowRow : OpenClaim := { program := "ytjeccdmhpbaabaa", sum := "22760057e83ceb36d7d87b85ca6997b6bd6321277b4cab4caa2acff13feb6aff", func := "loop.example/g01383/laws.FnExactLayRow", spec := "fnExactLayRow", unfollowed := true, recurses := true, plainKeys := false, apart := false }
def FnExactLayRowSaid : Prop := fnExactLayRowRow.holds Try.pinned (OpenSpec.ofChange fnExactLayRowSpec)

/-- ITS FALSE NEIGHBOUR: 'it returns false'. Refute it at one input. -/
def fnExactLayRowWrong : ChangeSpec := { name := "fnExactLayRow", fn := fun _ => fun
  | [d1, d2] => { results := [.lit (.bool false)], args := [d1, d2] }
  | _ => none }
def FnExactLayRowWrongFalsely : Prop := fnExactLayRowRow.holds Try.pinned (OpenSpec.ofChange fnExactLayRowWrong)

/-- 'laws.FnExactJoinBows': WHATEVER THE INPUT: true; the input reads as it did. -/
def fnExactJoinBowsSpec : ChangeSpec := { name := "fnExactJoinBows", fn := fun _ => fun
  | [d] => { results := [.lit (.bool true)], args := [d] }
  | _ => none }
def fnExactJoinBowsRow : OpenClaim := { program := "ytjeccdmhpbaabaa", sum := "22760057e83ceb36d7d87b85ca6997b6bd6321277b4cab4caa2acff13feb6aff", func := "loop.example/g01383/laws.FnExactJoinBows", spec := "fnExactJoinBows", unfollowed := true, recurses := true, plainKeys := false, apart := false }
def FnExactJoinBowsSaid : Prop := fnExactJoinBowsRow.holds Try.pinned (OpenSpec.ofChange fnExactJoinBowsSpec)

/-- ITS FALSE NEIGHBOUR: 'it returns false'. Refute it at one input. -/
def fnExactJoinBowsWrong : ChangeSpec := { name := "fnExactJoinBows", fn := fun _ => fun
  | [d] => { results := [.lit (.bool false)], args := [d] }
  | _ => none }
def FnExactJoinBowsWrongFalsely : Prop := fnExactJoinBowsRow.holds Try.pinned (OpenSpec.ofChange fnExactJoinBowsWrong)

/-- 'laws.FnExactBestTurn': WHATEVER THE INPUT: true; the input reads as it did. -/
def fnExactBestTurnSpec : ChangeSpec := { name := "fnExactBestTurn", fn := fun _ => fun
  | [d1, d2, d3] => { results := [.lit (.bool true)], args := [d1, d2, d3] }
  | _ => none }
def fnExactBestTurnRow : OpenClaim := { program := "ytjeccdmhpbaabaa", sum := "22760057e83ceb36d7d87b85ca6997b6bd6321277b4cab4caa2acff13feb6aff", func := "loop.example/g01383/laws.FnExactBestTurn", spec := "fnExactBestTurn", unfollowed := true, recurses := true, plainKeys := false, apart := false }
def FnExactBestTurnSaid : Prop := fnExactBestTurnRow.holds Try.pinned (OpenSpec.ofChange fnExactBestTurnSpec)

/-- ITS FALSE NEIGHBOUR: 'it returns false'. Refute it at one input. -/
def fnExactBestTurnWrong : ChangeSpec := { name := "fnExactBestTurn", fn := fun _ => fun
  | [d1, d2, d3] => { results := [.lit (.bool false)], args := [d1, d2, d3] }
  | _ => none }
def FnExactBestTurnWrongFalsely : Prop := fnExactBestTurnRow.holds Try.pinned (OpenSpec.ofChange fnExactBestTurnWrong)

/-- 'laws.FnExactFillRow': WHATEVER THE INPUT: true; the input reads as it did. -/
def fnExactFillRowSpec : ChangeSpec := { name := "fnExactFillRow", fn := fun _ => fun
  | [d1, d2, d3] => { results := [.lit (.bool true)], args := [d1, d2, d3] }
  | _ => none }
def fnExactFillRowRow : OpenClaim := { program := "ytjeccdmhpbaabaa", sum := "22760057e83ceb36d7d87b85ca6997b6bd6321277b4cab4caa2acff13feb6aff", func := "loop.example/g01383/laws.FnExactFillRow", spec := "fnExactFillRow", unfollowed := true, recurses := true, plainKeys := false, apart := false }
def FnExactFillRowSaid : Prop := fnExactFillRowRow.holds Try.pinned (OpenSpec.ofChange fnExactFillRowSpec)

/-- ITS FALSE NEIGHBOUR: 'it returns false'. Refute it at one input. -/
def fnExactFillRowWrong : ChangeSpec := { name := "fnExactFillRow", fn := fun _ => fun
  | [d1, d2, d3] => { results := [.lit (.bool false)], args := [d1, d2, d3] }
  | _ => none }
def FnExactFillRowWrongFalsely : Prop := fnExactFillRowRow.holds Try.pinned (OpenSpec.ofChange fnExactFillRowWrong)

/-- 'laws.FnExactWaysToFill': WHATEVER THE INPUT: true; the input reads as it did. -/
def fnExactWaysToFillSpec : ChangeSpec := { name := "fnExactWaysToFill", fn := fun _ => fun
  | [d1, d2, d3] => { results := [.lit (.bool true)], args := [d1, d2, d3] }
  | _ => none }
def fnExactWaysToFillRow : OpenClaim := { program := "ytjeccdmhpbaabaa", sum := "22760057e83ceb36d7d87b85ca6997b6bd6321277b4cab4caa2acff13feb6aff", func := "loop.example/g01383/laws.FnExactWaysToFill", spec := "fnExactWaysToFill", plainKeys := false, apart := false }
def FnExactWaysToFillSaid : Prop := fnExactWaysToFillRow.holds Try.pinned (OpenSpec.ofChange fnExactWaysToFillSpec)

/-- ITS FALSE NEIGHBOUR: 'it returns false'. Refute it at one input. -/
def fnExactWaysToFillWrong : ChangeSpec := { name := "fnExactWaysToFill", fn := fun _ => fun
  | [d1, d2, d3] => { results := [.lit (.bool false)], args := [d1, d2, d3] }
  | _ => none }
def FnExactWaysToFillWrongFalsely : Prop := fnExactWaysToFillRow.holds Try.pinned (OpenSpec.ofChange fnExactWaysToFillWrong)

/-- 'laws.FnExactCutRow': WHATEVER THE INPUT: true; the input reads as it did. -/
def fnExactCutRowSpec : ChangeSpec := { name := "fnExactCutRow", fn := fun _ => fun
  | [d1, d2, d3] => { results := [.lit (.bool true)], args := [d1, d2, d3] }
  | _ => none }
def fnExactCutRowRow : OpenClaim := { program := "ytjeccdmhpbaabaa", sum := "22760057e83ceb36d7d87b85ca6997b6bd6321277b4cab4caa2acff13feb6aff", func := "loop.example/g01383/laws.FnExactCutRow", spec := "fnExactCutRow", unfollowed := true, recurses := true, plainKeys := false, apart := false }
def FnExactCutRowSaid : Prop := fnExactCutRowRow.holds Try.pinned (OpenSpec.ofChange fnExactCutRowSpec)

/-- ITS FALSE NEIGHBOUR: 'it returns false'. Refute it at one input. -/
def fnExactCutRowWrong : ChangeSpec := { name := "fnExactCutRow", fn := fun _ => fun
  | [d1, d2, d3] => { results := [.lit (.bool false)], args := [d1, d2, d3] }
  | _ => none }
def FnExactCutRowWrongFalsely : Prop := fnExactCutRowRow.holds Try.pinned (OpenSpec.ofChange fnExactCutRowWrong)

/-- 'laws.FnExactFewestSorts': WHATEVER THE INPUT: true; the input reads as it did. -/
def fnExactFewestSortsSpec : ChangeSpec := { name := "fnExactFewestSorts", fn := fun _ => fun
  | [d1, d2, d3] => { results := [.lit (.bool true)], args := [d1, d2, d3] }
  | _ => none }
def fnExactFewestSortsRow : OpenClaim := { program := "ytjeccdmhpbaabaa", sum := "22760057e83ceb36d7d87b85ca6997b6bd6321277b4cab4caa2acff13feb6aff", func := "loop.example/g01383/laws.FnExactFewestSorts", spec := "fnExactFewestSorts", unfollowed := true, recurses := true, plainKeys := false, apart := false }
def FnExactFewestSortsSaid : Prop := fnExactFewestSortsRow.holds Try.pinned (OpenSpec.ofChange fnExactFewestSortsSpec)

/-- ITS FALSE NEIGHBOUR: 'it returns false'. Refute it at one input. -/
def fnExactFewestSortsWrong : ChangeSpec := { name := "fnExactFewestSorts", fn := fun _ => fun
  | [d1, d2, d3] => { results := [.lit (.bool false)], args := [d1, d2, d3] }
  | _ => none }
def FnExactFewestSortsWrongFalsely : Prop := fnExactFewestSortsRow.holds Try.pinned (OpenSpec.ofChange fnExactFewestSortsWrong)

/-- 'laws.FnExactRowsFrom': WHATEVER THE INPUT: true; the input reads as it did. -/
def fnExactRowsFromSpec : ChangeSpec := { name := "fnExactRowsFrom", fn := fun _ => fun
  | [d1, d2, d3] => { results := [.lit (.bool true)], args := [d1, d2, d3] }
  | _ => none }
def fnExactRowsFromRow : OpenClaim := { program := "ytjeccdmhpbaabaa", sum := "22760057e83ceb36d7d87b85ca6997b6bd6321277b4cab4caa2acff13feb6aff", func := "loop.example/g01383/laws.FnExactRowsFrom", spec := "fnExactRowsFrom", unfollowed := true, recurses := true, plainKeys := false, apart := false }
def FnExactRowsFromSaid : Prop := fnExactRowsFromRow.holds Try.pinned (OpenSpec.ofChange fnExactRowsFromSpec)

/-- ITS FALSE NEIGHBOUR: 'it returns false'. Refute it at one input. -/
def fnExactRowsFromWrong : ChangeSpec := { name := "fnExactRowsFrom", fn := fun _ => fun
  | [d1, d2, d3] => { results := [.lit (.bool false)], args := [d1, d2, d3] }
  | _ => none }
def FnExactRowsFromWrongFalsely : Prop := fnExactRowsFromRow.holds Try.pinned (OpenSpec.ofChange fnExactRowsFromWrong)

/-- 'laws.FnBows': WHATEVER THE INPUT: true; the input reads as it did. -/
def fnBowsSpec : ChangeSpec := { name := "fnBows", fn := fun _ => fun
  | [d1, d2] => { results := [.lit (.bool true)], args := [d1, d2] }
  | _ => none }
def fnBowsRow : OpenClaim := { program := "ytjeccdmhpbaabaa", sum := "22760057e83ceb36d7d87b85ca6997b6bd6321277b4cab4caa2acff13feb6aff", func := "loop.example/g01383/laws.FnBows", spec := "fnBows", unfollowed := true, recurses := true, plainKeys := false, apart := false }
def FnBowsSaid : Prop := fnBowsRow.holds Try.pinned (OpenSpec.ofChange fnBowsSpec)

/-- ITS FALSE NEIGHBOUR: 'it returns false'. Refute it at one input. -/
def fnBowsWrong : ChangeSpec := { name := "fnBows", fn := fun _ => fun
  | [d1, d2] => { results := [.lit (.bool false)], args := [d1, d2] }
  | _ => none }
def FnBowsWrongFalsely : Prop := fnBowsRow.holds Try.pinned (OpenSpec.ofChange fnBowsWrong)

/-- 'laws.FnExactFillWith': WHATEVER THE INPUT: true; the input reads as it did. -/
def fnExactFillWithSpec : ChangeSpec := { name := "fnExactFillWith", fn := fun _ => fun
  | [d1, d2, d3] => { results := [.lit (.bool true)], args := [d1, d2, d3] }
  | _ => none }
def fnExactFillWithRow : OpenClaim := { program := "ytjeccdmhpbaabaa", sum := "22760057e83ceb36d7d87b85ca6997b6bd6321277b4cab4caa2acff13feb6aff", func := "loop.example/g01383/laws.FnExactFillWith", spec := "fnExactFillWith", unfollowed := true, recurses := true, plainKeys := false, apart := false }
def FnExactFillWithSaid : Prop := fnExactFillWithRow.holds Try.pinned (OpenSpec.ofChange fnExactFillWithSpec)

/-- ITS FALSE NEIGHBOUR: 'it returns false'. Refute it at one input. -/
def fnExactFillWithWrong : ChangeSpec := { name := "fnExactFillWith", fn := fun _ => fun
  | [d1, d2, d3] => { results := [.lit (.bool false)], args := [d1, d2, d3] }
  | _ => none }
def FnExactFillWithWrongFalsely : Prop := fnExactFillWithRow.holds Try.pinned (OpenSpec.ofChange fnExactFillWithWrong)

/-- 'laws.FnExactSizesIn': WHATEVER THE INPUT: true; the input reads as it did. -/
def fnExactSizesInSpec : ChangeSpec := { name := "fnExactSizesIn", fn := fun _ => fun
  | [d] => { results := [.lit (.bool true)], args := [d] }
  | _ => none }
def fnExactSizesInRow : OpenClaim := { program := "ytjeccdmhpbaabaa", sum := "22760057e83ceb36d7d87b85ca6997b6bd6321277b4cab4caa2acff13feb6aff", func := "loop.example/g01383/laws.FnExactSizesIn", spec := "fnExactSizesIn", unfollowed := true, recurses := true, plainKeys := false, apart := false }
def FnExactSizesInSaid : Prop := fnExactSizesInRow.holds Try.pinned (OpenSpec.ofChange fnExactSizesInSpec)

/-- ITS FALSE NEIGHBOUR: 'it returns false'. Refute it at one input. -/
def fnExactSizesInWrong : ChangeSpec := { name := "fnExactSizesIn", fn := fun _ => fun
  | [d] => { results := [.lit (.bool false)], args := [d] }
  | _ => none }
def FnExactSizesInWrongFalsely : Prop := fnExactSizesInRow.holds Try.pinned (OpenSpec.ofChange fnExactSizesInWrong)

/-- 'laws.FnExactPiecesOf': WHATEVER THE INPUT: true; the input reads as it did. -/
def fnExactPiecesOfSpec : ChangeSpec := { name := "fnExactPiecesOf", fn := fun _ => fun
  | [d] => { results := [.lit (.bool true)], args := [d] }
  | _ => none }
def fnExactPiecesOfRow : OpenClaim := { program := "ytjeccdmhpbaabaa", sum := "22760057e83ceb36d7d87b85ca6997b6bd6321277b4cab4caa2acff13feb6aff", func := "loop.example/g01383/laws.FnExactPiecesOf", spec := "fnExactPiecesOf", unfollowed := true, recurses := true, plainKeys := false, apart := false }
def FnExactPiecesOfSaid : Prop := fnExactPiecesOfRow.holds Try.pinned (OpenSpec.ofChange fnExactPiecesOfSpec)

/-- ITS FALSE NEIGHBOUR: 'it returns false'. Refute it at one input. -/
def fnExactPiecesOfWrong : ChangeSpec := { name := "fnExactPiecesOf", fn := fun _ => fun
  | [d] => { results := [.lit (.bool false)], args := [d] }
  | _ => none }
def FnExactPiecesOfWrongFalsely : Prop := fnExactPiecesOfRow.holds Try.pinned (OpenSpec.ofChange fnExactPiecesOfWrong)

/- THE SECOND FORM. 'bulk': how many values and letters a reading holds, each counted each time it is reached (what is shared counts as often as it is met; a slice's spare places count too). A statement '..UptoSaid' is the law's where the arguments, and the package variables that the reading takes, are together of bulk at most 1048576: NARROWER than '..Said'. Prove '..Said' where nothing that the law and all that it calls make is longer than what came in: it says more and counts as full. Else prove '..UptoSaid'. A law counts once. -/
mutual
def uptoBulk {H : Type} : DataW H → Nat
  | .lit (.string bytes) => bytes.length + 1
  | .lit _ => 1
  | .nil => 1
  | .ptr d => uptoBulk d + 1
  | .slice elems spare => uptoBulkAll elems + uptoBulkAll spare + 1
  | .agg parts => uptoBulkAll parts + 1
  | .iface _ d => uptoBulk d + 1
  | .map entries => uptoBulkEntries entries + 1
  | .held _ => 1
def uptoBulkAll {H : Type} : List (DataW H) → Nat
  | [] => 0
  | d :: r => uptoBulk d + uptoBulkAll r
def uptoBulkEntries {H : Type} : List (Lit × DataW H) → Nat
  | [] => 0
  | x :: r => uptoBulkEntry x + uptoBulkEntries r
def uptoBulkEntry {H : Type} : Lit × DataW H → Nat
  | (.string bytes, d) => bytes.length + uptoBulk d + 1
  | (_, d) => uptoBulk d + 1
 end
def uptoSmall : (H : Type) → List (DataW H) → Bool := fun _ ds => decide (uptoBulkAll ds ≤ 1048576)
def OpenSpec.upto (s : _root_.Go.ChangeSpec) : _root_.Go.OpenSpec := { _root_.Go.OpenSpec.ofChange s with cond := some uptoSmall }

/-- 'laws.FnExactValidSetts', WHERE WHAT IT READS IS OF BULK AT MOST 1048576: true; the input reads as it did. -/
def fnExactValidSettsUptoRow : OpenClaim := { program := "ytjeccdmhpbaabaa", sum := "22760057e83ceb36d7d87b85ca6997b6bd6321277b4cab4caa2acff13feb6aff", func := "loop.example/g01383/laws.FnExactValidSetts", spec := "fnExactValidSetts", plainKeys := false, apart := false, narrowed := true }
def FnExactValidSettsUptoSaid : Prop := fnExactValidSettsUptoRow.holds Try.pinned (OpenSpec.upto fnExactValidSettsSpec)

/-- 'laws.FnExactValidBow', WHERE WHAT IT READS IS OF BULK AT MOST 1048576: true; the input reads as it did. -/
def fnExactValidBowUptoRow : OpenClaim := { program := "ytjeccdmhpbaabaa", sum := "22760057e83ceb36d7d87b85ca6997b6bd6321277b4cab4caa2acff13feb6aff", func := "loop.example/g01383/laws.FnExactValidBow", spec := "fnExactValidBow", unfollowed := true, recurses := true, plainKeys := false, apart := false, narrowed := true }
def FnExactValidBowUptoSaid : Prop := fnExactValidBowUptoRow.holds Try.pinned (OpenSpec.upto fnExactValidBowSpec)

/-- 'laws.FnExactMakeBow', WHERE WHAT IT READS IS OF BULK AT MOST 1048576: true; the input reads as it did. -/
def fnExactMakeBowUptoRow : OpenClaim := { program := "ytjeccdmhpbaabaa", sum := "22760057e83ceb36d7d87b85ca6997b6bd6321277b4cab4caa2acff13feb6aff", func := "loop.example/g01383/laws.FnExactMakeBow", spec := "fnExactMakeBow", unfollowed := true, recurses := true, plainKeys := false, apart := false, narrowed := true }
def FnExactMakeBowUptoSaid : Prop := fnExactMakeBowUptoRow.holds Try.pinned (OpenSpec.upto fnExactMakeBowSpec)

/-- 'laws.FnExactBowFrom', WHERE WHAT IT READS IS OF BULK AT MOST 1048576: true; the input reads as it did. -/
def fnExactBowFromUptoRow : OpenClaim := { program := "ytjeccdmhpbaabaa", sum := "22760057e83ceb36d7d87b85ca6997b6bd6321277b4cab4caa2acff13feb6aff", func := "loop.example/g01383/laws.FnExactBowFrom", spec := "fnExactBowFrom", unfollowed := true, recurses := true, plainKeys := false, apart := false, narrowed := true }
def FnExactBowFromUptoSaid : Prop := fnExactBowFromUptoRow.holds Try.pinned (OpenSpec.upto fnExactBowFromSpec)

/-- 'laws.FnExactTopsOf', WHERE WHAT IT READS IS OF BULK AT MOST 1048576: true; the input reads as it did. -/
def fnExactTopsOfUptoRow : OpenClaim := { program := "ytjeccdmhpbaabaa", sum := "22760057e83ceb36d7d87b85ca6997b6bd6321277b4cab4caa2acff13feb6aff", func := "loop.example/g01383/laws.FnExactTopsOf", spec := "fnExactTopsOf", unfollowed := true, recurses := true, plainKeys := false, apart := false, narrowed := true }
def FnExactTopsOfUptoSaid : Prop := fnExactTopsOfUptoRow.holds Try.pinned (OpenSpec.upto fnExactTopsOfSpec)

/-- 'laws.FnExactOffsetBow', WHERE WHAT IT READS IS OF BULK AT MOST 1048576: true; the input reads as it did. -/
def fnExactOffsetBowUptoRow : OpenClaim := { program := "ytjeccdmhpbaabaa", sum := "22760057e83ceb36d7d87b85ca6997b6bd6321277b4cab4caa2acff13feb6aff", func := "loop.example/g01383/laws.FnExactOffsetBow", spec := "fnExactOffsetBow", unfollowed := true, recurses := true, plainKeys := false, apart := false, narrowed := true }
def FnExactOffsetBowUptoSaid : Prop := fnExactOffsetBowUptoRow.holds Try.pinned (OpenSpec.upto fnExactOffsetBowSpec)

/-- 'laws.FnExactTurnRow', WHERE WHAT IT READS IS OF BULK AT MOST 1048576: true; the input reads as it did. -/
def fnExactTurnRowUptoRow : OpenClaim := { program := "ytjeccdmhpbaabaa", sum := "22760057e83ceb36d7d87b85ca6997b6bd6321277b4cab4caa2acff13feb6aff", func := "loop.example/g01383/laws.FnExactTurnRow", spec := "fnExactTurnRow", unfollowed := true, recurses := true, plainKeys := false, apart := false, narrowed := true }
def FnExactTurnRowUptoSaid : Prop := fnExactTurnRowUptoRow.holds Try.pinned (OpenSpec.upto fnExactTurnRowSpec)

/-- 'laws.FnExactJointsOf', WHERE WHAT IT READS IS OF BULK AT MOST 1048576: true; the input reads as it did. -/
def fnExactJointsOfUptoRow : OpenClaim := { program := "ytjeccdmhpbaabaa", sum := "22760057e83ceb36d7d87b85ca6997b6bd6321277b4cab4caa2acff13feb6aff", func := "loop.example/g01383/laws.FnExactJointsOf", spec := "fnExactJointsOf", unfollowed := true, recurses := true, plainKeys := false, apart := false, narrowed := true }
def FnExactJointsOfUptoSaid : Prop := fnExactJointsOfUptoRow.holds Try.pinned (OpenSpec.upto fnExactJointsOfSpec)

/-- 'laws.FnExactCommonJoints', WHERE WHAT IT READS IS OF BULK AT MOST 1048576: true; the input reads as it did. -/
def fnExactCommonJointsUptoRow : OpenClaim := { program := "ytjeccdmhpbaabaa", sum := "22760057e83ceb36d7d87b85ca6997b6bd6321277b4cab4caa2acff13feb6aff", func := "loop.example/g01383/laws.FnExactCommonJoints", spec := "fnExactCommonJoints", unfollowed := true, recurses := true, plainKeys := false, apart := false, narrowed := true }
def FnExactCommonJointsUptoSaid : Prop := fnExactCommonJointsUptoRow.holds Try.pinned (OpenSpec.upto fnExactCommonJointsSpec)

/-- 'laws.FnExactLayRow', WHERE WHAT IT READS IS OF BULK AT MOST 1048576: true; the input reads as it did. -/
def fnExactLayRowUptoRow : OpenClaim := { program := "ytjeccdmhpbaabaa", sum := "22760057e83ceb36d7d87b85ca6997b6bd6321277b4cab4caa2acff13feb6aff", func := "loop.example/g01383/laws.FnExactLayRow", spec := "fnExactLayRow", unfollowed := true, recurses := true, plainKeys := false, apart := false, narrowed := true }
def FnExactLayRowUptoSaid : Prop := fnExactLayRowUptoRow.holds Try.pinned (OpenSpec.upto fnExactLayRowSpec)

/-- 'laws.FnExactJoinBows', WHERE WHAT IT READS IS OF BULK AT MOST 1048576: true; the input reads as it did. -/
def fnExactJoinBowsUptoRow : OpenClaim := { program := "ytjeccdmhpbaabaa", sum := "22760057e83ceb36d7d87b85ca6997b6bd6321277b4cab4caa2acff13feb6aff", func := "loop.example/g01383/laws.FnExactJoinBows", spec := "fnExactJoinBows", unfollowed := true, recurses := true, plainKeys := false, apart := false, narrowed := true }
def FnExactJoinBowsUptoSaid : Prop := fnExactJoinBowsUptoRow.holds Try.pinned (OpenSpec.upto fnExactJoinBowsSpec)

/-- 'laws.FnExactBestTurn', WHERE WHAT IT READS IS OF BULK AT MOST 1048576: true; the input reads as it did. -/
def fnExactBestTurnUptoRow : OpenClaim := { program := "ytjeccdmhpbaabaa", sum := "22760057e83ceb36d7d87b85ca6997b6bd6321277b4cab4caa2acff13feb6aff", func := "loop.example/g01383/laws.FnExactBestTurn", spec := "fnExactBestTurn", unfollowed := true, recurses := true, plainKeys := false, apart := false, narrowed := true }
def FnExactBestTurnUptoSaid : Prop := fnExactBestTurnUptoRow.holds Try.pinned (OpenSpec.upto fnExactBestTurnSpec)

/-- 'laws.FnExactFillRow', WHERE WHAT IT READS IS OF BULK AT MOST 1048576: true; the input reads as it did. -/
def fnExactFillRowUptoRow : OpenClaim := { program := "ytjeccdmhpbaabaa", sum := "22760057e83ceb36d7d87b85ca6997b6bd6321277b4cab4caa2acff13feb6aff", func := "loop.example/g01383/laws.FnExactFillRow", spec := "fnExactFillRow", unfollowed := true, recurses := true, plainKeys := false, apart := false, narrowed := true }
def FnExactFillRowUptoSaid : Prop := fnExactFillRowUptoRow.holds Try.pinned (OpenSpec.upto fnExactFillRowSpec)

/-- 'laws.FnExactWaysToFill', WHERE WHAT IT READS IS OF BULK AT MOST 1048576: true; the input reads as it did. -/
def fnExactWaysToFillUptoRow : OpenClaim := { program := "ytjeccdmhpbaabaa", sum := "22760057e83ceb36d7d87b85ca6997b6bd6321277b4cab4caa2acff13feb6aff", func := "loop.example/g01383/laws.FnExactWaysToFill", spec := "fnExactWaysToFill", plainKeys := false, apart := false, narrowed := true }
def FnExactWaysToFillUptoSaid : Prop := fnExactWaysToFillUptoRow.holds Try.pinned (OpenSpec.upto fnExactWaysToFillSpec)

/-- 'laws.FnExactCutRow', WHERE WHAT IT READS IS OF BULK AT MOST 1048576: true; the input reads as it did. -/
def fnExactCutRowUptoRow : OpenClaim := { program := "ytjeccdmhpbaabaa", sum := "22760057e83ceb36d7d87b85ca6997b6bd6321277b4cab4caa2acff13feb6aff", func := "loop.example/g01383/laws.FnExactCutRow", spec := "fnExactCutRow", unfollowed := true, recurses := true, plainKeys := false, apart := false, narrowed := true }
def FnExactCutRowUptoSaid : Prop := fnExactCutRowUptoRow.holds Try.pinned (OpenSpec.upto fnExactCutRowSpec)

/-- 'laws.FnExactFewestSorts', WHERE WHAT IT READS IS OF BULK AT MOST 1048576: true; the input reads as it did. -/
def fnExactFewestSortsUptoRow : OpenClaim := { program := "ytjeccdmhpbaabaa", sum := "22760057e83ceb36d7d87b85ca6997b6bd6321277b4cab4caa2acff13feb6aff", func := "loop.example/g01383/laws.FnExactFewestSorts", spec := "fnExactFewestSorts", unfollowed := true, recurses := true, plainKeys := false, apart := false, narrowed := true }
def FnExactFewestSortsUptoSaid : Prop := fnExactFewestSortsUptoRow.holds Try.pinned (OpenSpec.upto fnExactFewestSortsSpec)

/-- 'laws.FnExactRowsFrom', WHERE WHAT IT READS IS OF BULK AT MOST 1048576: true; the input reads as it did. -/
def fnExactRowsFromUptoRow : OpenClaim := { program := "ytjeccdmhpbaabaa", sum := "22760057e83ceb36d7d87b85ca6997b6bd6321277b4cab4caa2acff13feb6aff", func := "loop.example/g01383/laws.FnExactRowsFrom", spec := "fnExactRowsFrom", unfollowed := true, recurses := true, plainKeys := false, apart := false, narrowed := true }
def FnExactRowsFromUptoSaid : Prop := fnExactRowsFromUptoRow.holds Try.pinned (OpenSpec.upto fnExactRowsFromSpec)

/-- 'laws.FnBows', WHERE WHAT IT READS IS OF BULK AT MOST 1048576: true; the input reads as it did. -/
def fnBowsUptoRow : OpenClaim := { program := "ytjeccdmhpbaabaa", sum := "22760057e83ceb36d7d87b85ca6997b6bd6321277b4cab4caa2acff13feb6aff", func := "loop.example/g01383/laws.FnBows", spec := "fnBows", unfollowed := true, recurses := true, plainKeys := false, apart := false, narrowed := true }
def FnBowsUptoSaid : Prop := fnBowsUptoRow.holds Try.pinned (OpenSpec.upto fnBowsSpec)

/-- 'laws.FnExactFillWith', WHERE WHAT IT READS IS OF BULK AT MOST 1048576: true; the input reads as it did. -/
def fnExactFillWithUptoRow : OpenClaim := { program := "ytjeccdmhpbaabaa", sum := "22760057e83ceb36d7d87b85ca6997b6bd6321277b4cab4caa2acff13feb6aff", func := "loop.example/g01383/laws.FnExactFillWith", spec := "fnExactFillWith", unfollowed := true, recurses := true, plainKeys := false, apart := false, narrowed := true }
def FnExactFillWithUptoSaid : Prop := fnExactFillWithUptoRow.holds Try.pinned (OpenSpec.upto fnExactFillWithSpec)

/-- 'laws.FnExactSizesIn', WHERE WHAT IT READS IS OF BULK AT MOST 1048576: true; the input reads as it did. -/
def fnExactSizesInUptoRow : OpenClaim := { program := "ytjeccdmhpbaabaa", sum := "22760057e83ceb36d7d87b85ca6997b6bd6321277b4cab4caa2acff13feb6aff", func := "loop.example/g01383/laws.FnExactSizesIn", spec := "fnExactSizesIn", unfollowed := true, recurses := true, plainKeys := false, apart := false, narrowed := true }
def FnExactSizesInUptoSaid : Prop := fnExactSizesInUptoRow.holds Try.pinned (OpenSpec.upto fnExactSizesInSpec)

/-- 'laws.FnExactPiecesOf', WHERE WHAT IT READS IS OF BULK AT MOST 1048576: true; the input reads as it did. -/
def fnExactPiecesOfUptoRow : OpenClaim := { program := "ytjeccdmhpbaabaa", sum := "22760057e83ceb36d7d87b85ca6997b6bd6321277b4cab4caa2acff13feb6aff", func := "loop.example/g01383/laws.FnExactPiecesOf", spec := "fnExactPiecesOf", unfollowed := true, recurses := true, plainKeys := false, apart := false, narrowed := true }
def FnExactPiecesOfUptoSaid : Prop := fnExactPiecesOfUptoRow.holds Try.pinned (OpenSpec.upto fnExactPiecesOfSpec)

end Rows
end Go.Proofs.Ytjeccdmhpbaabaa
