/-
  No cell of these rows narrows 'for every input' (looked for: loops, veiled, ifaces, maps, wideKeys, modest, calm, conditions, laid).
  DERIVED. THE GIVEN ROWS OF THIS SEAT. 22 by the template 'for every input the law returns true; each argument reads behind the call as it read before'; 0 by the template 'total and deterministic' (their statements: YtegnhpanlbfmdaaTotals.lean).
  GIVEN WITH THE SEED: the statements are not yours to turn. If you find one false, say at which input.
  Laid BY PROGRAM, IN A SANDBOX (cutbox-rows.mjs): the forced cells as the released guide's own fill.sh prints them over the translation 81684b8f112b88c8… (all of the seat's roots in one cut). By AI agents, Wed Nov 11 2026. No macro, syntax, notation, axiom, sorry.
-/
import Derived.Test.YtegnhpanlbfmdaaChecked
import GoSem.Claim
import GoSem.ClaimJoined
import GoSem.ClaimMapViews
import Derived.JoinedTies
import Derived.KernelRfl
namespace Go.Proofs.Ytegnhpanlbfmdaa
/- THE CELL 'sum', in the pinned program and in every row, IS THE sha256 OF THE DUMP (.gsa) THAT YtegnhpanlbfmdaaProg.lean LOADS. Nothing in Lean hashes anything: it is a label: what it is worth is what the hold of that sum in a sandbox is worth. -/
noncomputable def Try.pinned : Pinned := { name := "ytegnhpanlbfmdaa", sum := "81684b8f112b88c8614b844f1fe77086810db2fb3ee58ae2c36ccf84fb1cb5f2", checked := Try.checked }
namespace Rows
def none {H : Type} : Left H := { results := [], args := [] }

/-- 'laws.FnExactValidGround': WHATEVER THE INPUT: true; the input reads as it did. -/
def fnExactValidGroundSpec : ChangeSpec := { name := "fnExactValidGround", fn := fun _ => fun
  | [d] => { results := [.lit (.bool true)], args := [d] }
  | _ => none }
def fnExactValidGroundRow : OpenClaim := { program := "ytegnhpanlbfmdaa", sum := "81684b8f112b88c8614b844f1fe77086810db2fb3ee58ae2c36ccf84fb1cb5f2", func := "loop.example/g01383/laws.FnExactValidGround", spec := "fnExactValidGround", unfollowed := true, recurses := true, plainKeys := false, apart := false }
def FnExactValidGroundSaid : Prop := fnExactValidGroundRow.holds Try.pinned (OpenSpec.ofChange fnExactValidGroundSpec)

/-- ITS FALSE NEIGHBOUR: 'it returns false'. Refute it at one input. -/
def fnExactValidGroundWrong : ChangeSpec := { name := "fnExactValidGround", fn := fun _ => fun
  | [d] => { results := [.lit (.bool false)], args := [d] }
  | _ => none }
def FnExactValidGroundWrongFalsely : Prop := fnExactValidGroundRow.holds Try.pinned (OpenSpec.ofChange fnExactValidGroundWrong)

/-- 'laws.FnExactSameGround': WHATEVER THE INPUT: true; the input reads as it did. -/
def fnExactSameGroundSpec : ChangeSpec := { name := "fnExactSameGround", fn := fun _ => fun
  | [d1, d2] => { results := [.lit (.bool true)], args := [d1, d2] }
  | _ => none }
def fnExactSameGroundRow : OpenClaim := { program := "ytegnhpanlbfmdaa", sum := "81684b8f112b88c8614b844f1fe77086810db2fb3ee58ae2c36ccf84fb1cb5f2", func := "loop.example/g01383/laws.FnExactSameGround", spec := "fnExactSameGround", plainKeys := false, apart := false }
def FnExactSameGroundSaid : Prop := fnExactSameGroundRow.holds Try.pinned (OpenSpec.ofChange fnExactSameGroundSpec)

/-- ITS FALSE NEIGHBOUR: 'it returns false'. Refute it at one input. -/
def fnExactSameGroundWrong : ChangeSpec := { name := "fnExactSameGround", fn := fun _ => fun
  | [d1, d2] => { results := [.lit (.bool false)], args := [d1, d2] }
  | _ => none }
def FnExactSameGroundWrongFalsely : Prop := fnExactSameGroundRow.holds Try.pinned (OpenSpec.ofChange fnExactSameGroundWrong)

/-- 'laws.FnExactFallAt': WHATEVER THE INPUT: true; the input reads as it did. -/
def fnExactFallAtSpec : ChangeSpec := { name := "fnExactFallAt", fn := fun _ => fun
  | [d1, d2] => { results := [.lit (.bool true)], args := [d1, d2] }
  | _ => none }
def fnExactFallAtRow : OpenClaim := { program := "ytegnhpanlbfmdaa", sum := "81684b8f112b88c8614b844f1fe77086810db2fb3ee58ae2c36ccf84fb1cb5f2", func := "loop.example/g01383/laws.FnExactFallAt", spec := "fnExactFallAt", unfollowed := true, recurses := true, plainKeys := false, apart := false }
def FnExactFallAtSaid : Prop := fnExactFallAtRow.holds Try.pinned (OpenSpec.ofChange fnExactFallAtSpec)

/-- ITS FALSE NEIGHBOUR: 'it returns false'. Refute it at one input. -/
def fnExactFallAtWrong : ChangeSpec := { name := "fnExactFallAt", fn := fun _ => fun
  | [d1, d2] => { results := [.lit (.bool false)], args := [d1, d2] }
  | _ => none }
def FnExactFallAtWrongFalsely : Prop := fnExactFallAtRow.holds Try.pinned (OpenSpec.ofChange fnExactFallAtWrong)

/-- 'laws.FnExactRunFrom': WHATEVER THE INPUT: true; the input reads as it did. -/
def fnExactRunFromSpec : ChangeSpec := { name := "fnExactRunFrom", fn := fun _ => fun
  | [d1, d2] => { results := [.lit (.bool true)], args := [d1, d2] }
  | _ => none }
def fnExactRunFromRow : OpenClaim := { program := "ytegnhpanlbfmdaa", sum := "81684b8f112b88c8614b844f1fe77086810db2fb3ee58ae2c36ccf84fb1cb5f2", func := "loop.example/g01383/laws.FnExactRunFrom", spec := "fnExactRunFrom", unfollowed := true, recurses := true, plainKeys := false, apart := false }
def FnExactRunFromSaid : Prop := fnExactRunFromRow.holds Try.pinned (OpenSpec.ofChange fnExactRunFromSpec)

/-- ITS FALSE NEIGHBOUR: 'it returns false'. Refute it at one input. -/
def fnExactRunFromWrong : ChangeSpec := { name := "fnExactRunFrom", fn := fun _ => fun
  | [d1, d2] => { results := [.lit (.bool false)], args := [d1, d2] }
  | _ => none }
def FnExactRunFromWrongFalsely : Prop := fnExactRunFromRow.holds Try.pinned (OpenSpec.ofChange fnExactRunFromWrong)

/-- 'laws.FnExactDrainsTo': WHATEVER THE INPUT: true; the input reads as it did. -/
def fnExactDrainsToSpec : ChangeSpec := { name := "fnExactDrainsTo", fn := fun _ => fun
  | [d1, d2] => { results := [.lit (.bool true)], args := [d1, d2] }
  | _ => none }
def fnExactDrainsToRow : OpenClaim := { program := "ytegnhpanlbfmdaa", sum := "81684b8f112b88c8614b844f1fe77086810db2fb3ee58ae2c36ccf84fb1cb5f2", func := "loop.example/g01383/laws.FnExactDrainsTo", spec := "fnExactDrainsTo", unfollowed := true, recurses := true, plainKeys := false, apart := false }
def FnExactDrainsToSaid : Prop := fnExactDrainsToRow.holds Try.pinned (OpenSpec.ofChange fnExactDrainsToSpec)

/-- ITS FALSE NEIGHBOUR: 'it returns false'. Refute it at one input. -/
def fnExactDrainsToWrong : ChangeSpec := { name := "fnExactDrainsTo", fn := fun _ => fun
  | [d1, d2] => { results := [.lit (.bool false)], args := [d1, d2] }
  | _ => none }
def FnExactDrainsToWrongFalsely : Prop := fnExactDrainsToRow.holds Try.pinned (OpenSpec.ofChange fnExactDrainsToWrong)

/-- 'laws.FnExactBasinOf': WHATEVER THE INPUT: true; the input reads as it did. -/
def fnExactBasinOfSpec : ChangeSpec := { name := "fnExactBasinOf", fn := fun _ => fun
  | [d1, d2] => { results := [.lit (.bool true)], args := [d1, d2] }
  | _ => none }
def fnExactBasinOfRow : OpenClaim := { program := "ytegnhpanlbfmdaa", sum := "81684b8f112b88c8614b844f1fe77086810db2fb3ee58ae2c36ccf84fb1cb5f2", func := "loop.example/g01383/laws.FnExactBasinOf", spec := "fnExactBasinOf", unfollowed := true, recurses := true, plainKeys := false, apart := false }
def FnExactBasinOfSaid : Prop := fnExactBasinOfRow.holds Try.pinned (OpenSpec.ofChange fnExactBasinOfSpec)

/-- ITS FALSE NEIGHBOUR: 'it returns false'. Refute it at one input. -/
def fnExactBasinOfWrong : ChangeSpec := { name := "fnExactBasinOf", fn := fun _ => fun
  | [d1, d2] => { results := [.lit (.bool false)], args := [d1, d2] }
  | _ => none }
def FnExactBasinOfWrongFalsely : Prop := fnExactBasinOfRow.holds Try.pinned (OpenSpec.ofChange fnExactBasinOfWrong)

/-- 'laws.FnExactStandsAt': WHATEVER THE INPUT: true; the input reads as it did. -/
def fnExactStandsAtSpec : ChangeSpec := { name := "fnExactStandsAt", fn := fun _ => fun
  | [d] => { results := [.lit (.bool true)], args := [d] }
  | _ => none }
def fnExactStandsAtRow : OpenClaim := { program := "ytegnhpanlbfmdaa", sum := "81684b8f112b88c8614b844f1fe77086810db2fb3ee58ae2c36ccf84fb1cb5f2", func := "loop.example/g01383/laws.FnExactStandsAt", spec := "fnExactStandsAt", unfollowed := true, recurses := true, plainKeys := false, apart := false }
def FnExactStandsAtSaid : Prop := fnExactStandsAtRow.holds Try.pinned (OpenSpec.ofChange fnExactStandsAtSpec)

/-- ITS FALSE NEIGHBOUR: 'it returns false'. Refute it at one input. -/
def fnExactStandsAtWrong : ChangeSpec := { name := "fnExactStandsAt", fn := fun _ => fun
  | [d] => { results := [.lit (.bool false)], args := [d] }
  | _ => none }
def FnExactStandsAtWrongFalsely : Prop := fnExactStandsAtRow.holds Try.pinned (OpenSpec.ofChange fnExactStandsAtWrong)

/-- 'laws.FnExactSteepestFall': WHATEVER THE INPUT: true; the input reads as it did. -/
def fnExactSteepestFallSpec : ChangeSpec := { name := "fnExactSteepestFall", fn := fun _ => fun
  | [d] => { results := [.lit (.bool true)], args := [d] }
  | _ => none }
def fnExactSteepestFallRow : OpenClaim := { program := "ytegnhpanlbfmdaa", sum := "81684b8f112b88c8614b844f1fe77086810db2fb3ee58ae2c36ccf84fb1cb5f2", func := "loop.example/g01383/laws.FnExactSteepestFall", spec := "fnExactSteepestFall", unfollowed := true, recurses := true, plainKeys := false, apart := false }
def FnExactSteepestFallSaid : Prop := fnExactSteepestFallRow.holds Try.pinned (OpenSpec.ofChange fnExactSteepestFallSpec)

/-- ITS FALSE NEIGHBOUR: 'it returns false'. Refute it at one input. -/
def fnExactSteepestFallWrong : ChangeSpec := { name := "fnExactSteepestFall", fn := fun _ => fun
  | [d] => { results := [.lit (.bool false)], args := [d] }
  | _ => none }
def FnExactSteepestFallWrongFalsely : Prop := fnExactSteepestFallRow.holds Try.pinned (OpenSpec.ofChange fnExactSteepestFallWrong)

/-- 'laws.FnExactFlatSteps': WHATEVER THE INPUT: true; the input reads as it did. -/
def fnExactFlatStepsSpec : ChangeSpec := { name := "fnExactFlatSteps", fn := fun _ => fun
  | [d] => { results := [.lit (.bool true)], args := [d] }
  | _ => none }
def fnExactFlatStepsRow : OpenClaim := { program := "ytegnhpanlbfmdaa", sum := "81684b8f112b88c8614b844f1fe77086810db2fb3ee58ae2c36ccf84fb1cb5f2", func := "loop.example/g01383/laws.FnExactFlatSteps", spec := "fnExactFlatSteps", unfollowed := true, recurses := true, plainKeys := false, apart := false }
def FnExactFlatStepsSaid : Prop := fnExactFlatStepsRow.holds Try.pinned (OpenSpec.ofChange fnExactFlatStepsSpec)

/-- ITS FALSE NEIGHBOUR: 'it returns false'. Refute it at one input. -/
def fnExactFlatStepsWrong : ChangeSpec := { name := "fnExactFlatSteps", fn := fun _ => fun
  | [d] => { results := [.lit (.bool false)], args := [d] }
  | _ => none }
def FnExactFlatStepsWrongFalsely : Prop := fnExactFlatStepsRow.holds Try.pinned (OpenSpec.ofChange fnExactFlatStepsWrong)

/-- 'laws.FnExactFillLevels': WHATEVER THE INPUT: true; the input reads as it did. -/
def fnExactFillLevelsSpec : ChangeSpec := { name := "fnExactFillLevels", fn := fun _ => fun
  | [d] => { results := [.lit (.bool true)], args := [d] }
  | _ => none }
def fnExactFillLevelsRow : OpenClaim := { program := "ytegnhpanlbfmdaa", sum := "81684b8f112b88c8614b844f1fe77086810db2fb3ee58ae2c36ccf84fb1cb5f2", func := "loop.example/g01383/laws.FnExactFillLevels", spec := "fnExactFillLevels", unfollowed := true, recurses := true, plainKeys := false, apart := false }
def FnExactFillLevelsSaid : Prop := fnExactFillLevelsRow.holds Try.pinned (OpenSpec.ofChange fnExactFillLevelsSpec)

/-- ITS FALSE NEIGHBOUR: 'it returns false'. Refute it at one input. -/
def fnExactFillLevelsWrong : ChangeSpec := { name := "fnExactFillLevels", fn := fun _ => fun
  | [d] => { results := [.lit (.bool false)], args := [d] }
  | _ => none }
def FnExactFillLevelsWrongFalsely : Prop := fnExactFillLevelsRow.holds Try.pinned (OpenSpec.ofChange fnExactFillLevelsWrong)

/-- 'laws.FnExactPoolSum': WHATEVER THE INPUT: true; the input reads as it did. -/
def fnExactPoolSumSpec : ChangeSpec := { name := "fnExactPoolSum", fn := fun _ => fun
  | [d] => { results := [.lit (.bool true)], args := [d] }
  | _ => none }
def fnExactPoolSumRow : OpenClaim := { program := "ytegnhpanlbfmdaa", sum := "81684b8f112b88c8614b844f1fe77086810db2fb3ee58ae2c36ccf84fb1cb5f2", func := "loop.example/g01383/laws.FnExactPoolSum", spec := "fnExactPoolSum", unfollowed := true, recurses := true, plainKeys := false, apart := false }
def FnExactPoolSumSaid : Prop := fnExactPoolSumRow.holds Try.pinned (OpenSpec.ofChange fnExactPoolSumSpec)

/-- ITS FALSE NEIGHBOUR: 'it returns false'. Refute it at one input. -/
def fnExactPoolSumWrong : ChangeSpec := { name := "fnExactPoolSum", fn := fun _ => fun
  | [d] => { results := [.lit (.bool false)], args := [d] }
  | _ => none }
def FnExactPoolSumWrongFalsely : Prop := fnExactPoolSumRow.holds Try.pinned (OpenSpec.ofChange fnExactPoolSumWrong)

/-- 'laws.FnExactDrySquare': WHATEVER THE INPUT: true; the input reads as it did. -/
def fnExactDrySquareSpec : ChangeSpec := { name := "fnExactDrySquare", fn := fun _ => fun
  | [d] => { results := [.lit (.bool true)], args := [d] }
  | _ => none }
def fnExactDrySquareRow : OpenClaim := { program := "ytegnhpanlbfmdaa", sum := "81684b8f112b88c8614b844f1fe77086810db2fb3ee58ae2c36ccf84fb1cb5f2", func := "loop.example/g01383/laws.FnExactDrySquare", spec := "fnExactDrySquare", unfollowed := true, recurses := true, plainKeys := false, apart := false }
def FnExactDrySquareSaid : Prop := fnExactDrySquareRow.holds Try.pinned (OpenSpec.ofChange fnExactDrySquareSpec)

/-- ITS FALSE NEIGHBOUR: 'it returns false'. Refute it at one input. -/
def fnExactDrySquareWrong : ChangeSpec := { name := "fnExactDrySquare", fn := fun _ => fun
  | [d] => { results := [.lit (.bool false)], args := [d] }
  | _ => none }
def FnExactDrySquareWrongFalsely : Prop := fnExactDrySquareRow.holds Try.pinned (OpenSpec.ofChange fnExactDrySquareWrong)

/-- 'laws.FnExactFewestGullies': WHATEVER THE INPUT: true; the input reads as it did. -/
def fnExactFewestGulliesSpec : ChangeSpec := { name := "fnExactFewestGullies", fn := fun _ => fun
  | [d] => { results := [.lit (.bool true)], args := [d] }
  | _ => none }
def fnExactFewestGulliesRow : OpenClaim := { program := "ytegnhpanlbfmdaa", sum := "81684b8f112b88c8614b844f1fe77086810db2fb3ee58ae2c36ccf84fb1cb5f2", func := "loop.example/g01383/laws.FnExactFewestGullies", spec := "fnExactFewestGullies", unfollowed := true, recurses := true, plainKeys := false, apart := false }
def FnExactFewestGulliesSaid : Prop := fnExactFewestGulliesRow.holds Try.pinned (OpenSpec.ofChange fnExactFewestGulliesSpec)

/-- ITS FALSE NEIGHBOUR: 'it returns false'. Refute it at one input. -/
def fnExactFewestGulliesWrong : ChangeSpec := { name := "fnExactFewestGullies", fn := fun _ => fun
  | [d] => { results := [.lit (.bool false)], args := [d] }
  | _ => none }
def FnExactFewestGulliesWrongFalsely : Prop := fnExactFewestGulliesRow.holds Try.pinned (OpenSpec.ofChange fnExactFewestGulliesWrong)

/-- 'laws.FnExactSlopeGround': WHATEVER THE INPUT: true; the input reads as it did. -/
def fnExactSlopeGroundSpec : ChangeSpec := { name := "fnExactSlopeGround", fn := fun _ => fun
  | [d1, d2, d3, d4] => { results := [.lit (.bool true)], args := [d1, d2, d3, d4] }
  | _ => none }
def fnExactSlopeGroundRow : OpenClaim := { program := "ytegnhpanlbfmdaa", sum := "81684b8f112b88c8614b844f1fe77086810db2fb3ee58ae2c36ccf84fb1cb5f2", func := "loop.example/g01383/laws.FnExactSlopeGround", spec := "fnExactSlopeGround", unfollowed := true, recurses := true, plainKeys := false, apart := false }
def FnExactSlopeGroundSaid : Prop := fnExactSlopeGroundRow.holds Try.pinned (OpenSpec.ofChange fnExactSlopeGroundSpec)

/-- ITS FALSE NEIGHBOUR: 'it returns false'. Refute it at one input. -/
def fnExactSlopeGroundWrong : ChangeSpec := { name := "fnExactSlopeGround", fn := fun _ => fun
  | [d1, d2, d3, d4] => { results := [.lit (.bool false)], args := [d1, d2, d3, d4] }
  | _ => none }
def FnExactSlopeGroundWrongFalsely : Prop := fnExactSlopeGroundRow.holds Try.pinned (OpenSpec.ofChange fnExactSlopeGroundWrong)

/-- 'laws.FnExactKeepsFall': WHATEVER THE INPUT: true; the input reads as it did. -/
def fnExactKeepsFallSpec : ChangeSpec := { name := "fnExactKeepsFall", fn := fun _ => fun
  | [d1, d2] => { results := [.lit (.bool true)], args := [d1, d2] }
  | _ => none }
def fnExactKeepsFallRow : OpenClaim := { program := "ytegnhpanlbfmdaa", sum := "81684b8f112b88c8614b844f1fe77086810db2fb3ee58ae2c36ccf84fb1cb5f2", func := "loop.example/g01383/laws.FnExactKeepsFall", spec := "fnExactKeepsFall", unfollowed := true, recurses := true, plainKeys := false, apart := false }
def FnExactKeepsFallSaid : Prop := fnExactKeepsFallRow.holds Try.pinned (OpenSpec.ofChange fnExactKeepsFallSpec)

/-- ITS FALSE NEIGHBOUR: 'it returns false'. Refute it at one input. -/
def fnExactKeepsFallWrong : ChangeSpec := { name := "fnExactKeepsFall", fn := fun _ => fun
  | [d1, d2] => { results := [.lit (.bool false)], args := [d1, d2] }
  | _ => none }
def FnExactKeepsFallWrongFalsely : Prop := fnExactKeepsFallRow.holds Try.pinned (OpenSpec.ofChange fnExactKeepsFallWrong)

/-- 'laws.FnExactFirstShort': WHATEVER THE INPUT: true; the input reads as it did. -/
def fnExactFirstShortSpec : ChangeSpec := { name := "fnExactFirstShort", fn := fun _ => fun
  | [d1, d2] => { results := [.lit (.bool true)], args := [d1, d2] }
  | _ => none }
def fnExactFirstShortRow : OpenClaim := { program := "ytegnhpanlbfmdaa", sum := "81684b8f112b88c8614b844f1fe77086810db2fb3ee58ae2c36ccf84fb1cb5f2", func := "loop.example/g01383/laws.FnExactFirstShort", spec := "fnExactFirstShort", unfollowed := true, recurses := true, plainKeys := false, apart := false }
def FnExactFirstShortSaid : Prop := fnExactFirstShortRow.holds Try.pinned (OpenSpec.ofChange fnExactFirstShortSpec)

/-- ITS FALSE NEIGHBOUR: 'it returns false'. Refute it at one input. -/
def fnExactFirstShortWrong : ChangeSpec := { name := "fnExactFirstShort", fn := fun _ => fun
  | [d1, d2] => { results := [.lit (.bool false)], args := [d1, d2] }
  | _ => none }
def FnExactFirstShortWrongFalsely : Prop := fnExactFirstShortRow.holds Try.pinned (OpenSpec.ofChange fnExactFirstShortWrong)

/-- 'laws.FnExactRaiseAll': WHATEVER THE INPUT: true; the input reads as it did. -/
def fnExactRaiseAllSpec : ChangeSpec := { name := "fnExactRaiseAll", fn := fun _ => fun
  | [d1, d2] => { results := [.lit (.bool true)], args := [d1, d2] }
  | _ => none }
def fnExactRaiseAllRow : OpenClaim := { program := "ytegnhpanlbfmdaa", sum := "81684b8f112b88c8614b844f1fe77086810db2fb3ee58ae2c36ccf84fb1cb5f2", func := "loop.example/g01383/laws.FnExactRaiseAll", spec := "fnExactRaiseAll", unfollowed := true, recurses := true, plainKeys := false, apart := false }
def FnExactRaiseAllSaid : Prop := fnExactRaiseAllRow.holds Try.pinned (OpenSpec.ofChange fnExactRaiseAllSpec)

/-- ITS FALSE NEIGHBOUR: 'it returns false'. Refute it at one input. -/
def fnExactRaiseAllWrong : ChangeSpec := { name := "fnExactRaiseAll", fn := fun _ => fun
  | [d1, d2] => { results := [.lit (.bool false)], args := [d1, d2] }
  | _ => none }
def FnExactRaiseAllWrongFalsely : Prop := fnExactRaiseAllRow.holds Try.pinned (OpenSpec.ofChange fnExactRaiseAllWrong)

/-- 'laws.FnExactMirrorGround': WHATEVER THE INPUT: true; the input reads as it did. -/
def fnExactMirrorGroundSpec : ChangeSpec := { name := "fnExactMirrorGround", fn := fun _ => fun
  | [d] => { results := [.lit (.bool true)], args := [d] }
  | _ => none }
def fnExactMirrorGroundRow : OpenClaim := { program := "ytegnhpanlbfmdaa", sum := "81684b8f112b88c8614b844f1fe77086810db2fb3ee58ae2c36ccf84fb1cb5f2", func := "loop.example/g01383/laws.FnExactMirrorGround", spec := "fnExactMirrorGround", unfollowed := true, recurses := true, plainKeys := false, apart := false }
def FnExactMirrorGroundSaid : Prop := fnExactMirrorGroundRow.holds Try.pinned (OpenSpec.ofChange fnExactMirrorGroundSpec)

/-- ITS FALSE NEIGHBOUR: 'it returns false'. Refute it at one input. -/
def fnExactMirrorGroundWrong : ChangeSpec := { name := "fnExactMirrorGround", fn := fun _ => fun
  | [d] => { results := [.lit (.bool false)], args := [d] }
  | _ => none }
def FnExactMirrorGroundWrongFalsely : Prop := fnExactMirrorGroundRow.holds Try.pinned (OpenSpec.ofChange fnExactMirrorGroundWrong)

/-- 'laws.FnExactLayRow': WHATEVER THE INPUT: true; the input reads as it did. -/
def fnExactLayRowSpec : ChangeSpec := { name := "fnExactLayRow", fn := fun _ => fun
  | [d1, d2] => { results := [.lit (.bool true)], args := [d1, d2] }
  | _ => none }
def fnExactLayRowRow : OpenClaim := { program := "ytegnhpanlbfmdaa", sum := "81684b8f112b88c8614b844f1fe77086810db2fb3ee58ae2c36ccf84fb1cb5f2", func := "loop.example/g01383/laws.FnExactLayRow", spec := "fnExactLayRow", unfollowed := true, recurses := true, plainKeys := false, apart := false }
def FnExactLayRowSaid : Prop := fnExactLayRowRow.holds Try.pinned (OpenSpec.ofChange fnExactLayRowSpec)

/-- ITS FALSE NEIGHBOUR: 'it returns false'. Refute it at one input. -/
def fnExactLayRowWrong : ChangeSpec := { name := "fnExactLayRow", fn := fun _ => fun
  | [d1, d2] => { results := [.lit (.bool false)], args := [d1, d2] }
  | _ => none }
def FnExactLayRowWrongFalsely : Prop := fnExactLayRowRow.holds Try.pinned (OpenSpec.ofChange fnExactLayRowWrong)

/-- 'laws.FnExactCutRow': WHATEVER THE INPUT: true; the input reads as it did. -/
def fnExactCutRowSpec : ChangeSpec := { name := "fnExactCutRow", fn := fun _ => fun
  | [d1, d2, d3] => { results := [.lit (.bool true)], args := [d1, d2, d3] }
  | _ => none }
def fnExactCutRowRow : OpenClaim := { program := "ytegnhpanlbfmdaa", sum := "81684b8f112b88c8614b844f1fe77086810db2fb3ee58ae2c36ccf84fb1cb5f2", func := "loop.example/g01383/laws.FnExactCutRow", spec := "fnExactCutRow", unfollowed := true, recurses := true, plainKeys := false, apart := false }
def FnExactCutRowSaid : Prop := fnExactCutRowRow.holds Try.pinned (OpenSpec.ofChange fnExactCutRowSpec)

/-- ITS FALSE NEIGHBOUR: 'it returns false'. Refute it at one input. -/
def fnExactCutRowWrong : ChangeSpec := { name := "fnExactCutRow", fn := fun _ => fun
  | [d1, d2, d3] => { results := [.lit (.bool false)], args := [d1, d2, d3] }
  | _ => none }
def FnExactCutRowWrongFalsely : Prop := fnExactCutRowRow.holds Try.pinned (OpenSpec.ofChange fnExactCutRowWrong)

/-- 'laws.FnExactJoinBows': WHATEVER THE INPUT: true; the input reads as it did. -/
def fnExactJoinBowsSpec : ChangeSpec := { name := "fnExactJoinBows", fn := fun _ => fun
  | [d] => { results := [.lit (.bool true)], args := [d] }
  | _ => none }
def fnExactJoinBowsRow : OpenClaim := { program := "ytegnhpanlbfmdaa", sum := "81684b8f112b88c8614b844f1fe77086810db2fb3ee58ae2c36ccf84fb1cb5f2", func := "loop.example/g01383/laws.FnExactJoinBows", spec := "fnExactJoinBows", unfollowed := true, recurses := true, plainKeys := false, apart := false }
def FnExactJoinBowsSaid : Prop := fnExactJoinBowsRow.holds Try.pinned (OpenSpec.ofChange fnExactJoinBowsSpec)

/-- ITS FALSE NEIGHBOUR: 'it returns false'. Refute it at one input. -/
def fnExactJoinBowsWrong : ChangeSpec := { name := "fnExactJoinBows", fn := fun _ => fun
  | [d] => { results := [.lit (.bool false)], args := [d] }
  | _ => none }
def FnExactJoinBowsWrongFalsely : Prop := fnExactJoinBowsRow.holds Try.pinned (OpenSpec.ofChange fnExactJoinBowsWrong)

/-- 'laws.FnBows': WHATEVER THE INPUT: true; the input reads as it did. -/
def fnBowsSpec : ChangeSpec := { name := "fnBows", fn := fun _ => fun
  | [d1, d2] => { results := [.lit (.bool true)], args := [d1, d2] }
  | _ => none }
def fnBowsRow : OpenClaim := { program := "ytegnhpanlbfmdaa", sum := "81684b8f112b88c8614b844f1fe77086810db2fb3ee58ae2c36ccf84fb1cb5f2", func := "loop.example/g01383/laws.FnBows", spec := "fnBows", unfollowed := true, recurses := true, plainKeys := false, apart := false }
def FnBowsSaid : Prop := fnBowsRow.holds Try.pinned (OpenSpec.ofChange fnBowsSpec)

/-- ITS FALSE NEIGHBOUR: 'it returns false'. Refute it at one input. -/
def fnBowsWrong : ChangeSpec := { name := "fnBows", fn := fun _ => fun
  | [d1, d2] => { results := [.lit (.bool false)], args := [d1, d2] }
  | _ => none }
def FnBowsWrongFalsely : Prop := fnBowsRow.holds Try.pinned (OpenSpec.ofChange fnBowsWrong)

/- THE SECOND FORM. 'bulk': how many values and letters a reading holds, each counted each time it is reached (what is shared counts as often as it is met; a slice's spare places count too). A statement '..UptoSaid' is the law's where the arguments, and the package variables that the reading takes, are together of bulk at most 1048576: NARROWER than '..Said'. Prove '..Said' where nothing that the law and all that it calls make is longer than what came in: it says more and counts as full. Else prove '..UptoSaid'. A law counts once. -/
mutual
def uptoBulk {H : Type} : DataW H → Nat
  | .lit (.string bytes) => bytes.length + 1
  | .lit _ => 1
  | .nil => 1
  | .ptr d => uptoBulk d + 1
  | .slice elems spare => uptoBulkAll elems + uptoBulkAll spare + 1
  | .agg parts => uptoBulkAll parts + 1
  | .iface _ d => uptoBulk d + 1
  | .map entries => uptoBulkEntries entries + 1
  | .held _ => 1
def uptoBulkAll {H : Type} : List (DataW H) → Nat
  | [] => 0
  | d :: r => uptoBulk d + uptoBulkAll r
def uptoBulkEntries {H : Type} : List (Lit × DataW H) → Nat
  | [] => 0
  | x :: r => uptoBulkEntry x + uptoBulkEntries r
def uptoBulkEntry {H : Type} : Lit × DataW H → Nat
  | (.string bytes, d) => bytes.length + uptoBulk d + 1
  | (_, d) => uptoBulk d + 1
 end
def uptoSmall : (H : Type) → List (DataW H) → Bool := fun _ ds => decide (uptoBulkAll ds ≤ 1048576)
def OpenSpec.upto (s : _root_.Go.ChangeSpec) : _root_.Go.OpenSpec := { _root_.Go.OpenSpec.ofChange s with cond := some uptoSmall }

/-- 'laws.FnExactValidGround', WHERE WHAT IT READS IS OF BULK AT MOST 1048576: true; the input reads as it did. -/
def fnExactValidGroundUptoRow : OpenClaim := { program := "ytegnhpanlbfmdaa", sum := "81684b8f112b88c8614b844f1fe77086810db2fb3ee58ae2c36ccf84fb1cb5f2", func := "loop.example/g01383/laws.FnExactValidGround", spec := "fnExactValidGround", unfollowed := true, recurses := true, plainKeys := false, apart := false, narrowed := true }
def FnExactValidGroundUptoSaid : Prop := fnExactValidGroundUptoRow.holds Try.pinned (OpenSpec.upto fnExactValidGroundSpec)

/-- 'laws.FnExactSameGround', WHERE WHAT IT READS IS OF BULK AT MOST 1048576: true; the input reads as it did. -/
def fnExactSameGroundUptoRow : OpenClaim := { program := "ytegnhpanlbfmdaa", sum := "81684b8f112b88c8614b844f1fe77086810db2fb3ee58ae2c36ccf84fb1cb5f2", func := "loop.example/g01383/laws.FnExactSameGround", spec := "fnExactSameGround", plainKeys := false, apart := false, narrowed := true }
def FnExactSameGroundUptoSaid : Prop := fnExactSameGroundUptoRow.holds Try.pinned (OpenSpec.upto fnExactSameGroundSpec)

/-- 'laws.FnExactFallAt', WHERE WHAT IT READS IS OF BULK AT MOST 1048576: true; the input reads as it did. -/
def fnExactFallAtUptoRow : OpenClaim := { program := "ytegnhpanlbfmdaa", sum := "81684b8f112b88c8614b844f1fe77086810db2fb3ee58ae2c36ccf84fb1cb5f2", func := "loop.example/g01383/laws.FnExactFallAt", spec := "fnExactFallAt", unfollowed := true, recurses := true, plainKeys := false, apart := false, narrowed := true }
def FnExactFallAtUptoSaid : Prop := fnExactFallAtUptoRow.holds Try.pinned (OpenSpec.upto fnExactFallAtSpec)

/-- 'laws.FnExactRunFrom', WHERE WHAT IT READS IS OF BULK AT MOST 1048576: true; the input reads as it did. -/
def fnExactRunFromUptoRow : OpenClaim := { program := "ytegnhpanlbfmdaa", sum := "81684b8f112b88c8614b844f1fe77086810db2fb3ee58ae2c36ccf84fb1cb5f2", func := "loop.example/g01383/laws.FnExactRunFrom", spec := "fnExactRunFrom", unfollowed := true, recurses := true, plainKeys := false, apart := false, narrowed := true }
def FnExactRunFromUptoSaid : Prop := fnExactRunFromUptoRow.holds Try.pinned (OpenSpec.upto fnExactRunFromSpec)

/-- 'laws.FnExactDrainsTo', WHERE WHAT IT READS IS OF BULK AT MOST 1048576: true; the input reads as it did. -/
def fnExactDrainsToUptoRow : OpenClaim := { program := "ytegnhpanlbfmdaa", sum := "81684b8f112b88c8614b844f1fe77086810db2fb3ee58ae2c36ccf84fb1cb5f2", func := "loop.example/g01383/laws.FnExactDrainsTo", spec := "fnExactDrainsTo", unfollowed := true, recurses := true, plainKeys := false, apart := false, narrowed := true }
def FnExactDrainsToUptoSaid : Prop := fnExactDrainsToUptoRow.holds Try.pinned (OpenSpec.upto fnExactDrainsToSpec)

/-- 'laws.FnExactBasinOf', WHERE WHAT IT READS IS OF BULK AT MOST 1048576: true; the input reads as it did. -/
def fnExactBasinOfUptoRow : OpenClaim := { program := "ytegnhpanlbfmdaa", sum := "81684b8f112b88c8614b844f1fe77086810db2fb3ee58ae2c36ccf84fb1cb5f2", func := "loop.example/g01383/laws.FnExactBasinOf", spec := "fnExactBasinOf", unfollowed := true, recurses := true, plainKeys := false, apart := false, narrowed := true }
def FnExactBasinOfUptoSaid : Prop := fnExactBasinOfUptoRow.holds Try.pinned (OpenSpec.upto fnExactBasinOfSpec)

/-- 'laws.FnExactStandsAt', WHERE WHAT IT READS IS OF BULK AT MOST 1048576: true; the input reads as it did. -/
def fnExactStandsAtUptoRow : OpenClaim := { program := "ytegnhpanlbfmdaa", sum := "81684b8f112b88c8614b844f1fe77086810db2fb3ee58ae2c36ccf84fb1cb5f2", func := "loop.example/g01383/laws.FnExactStandsAt", spec := "fnExactStandsAt", unfollowed := true, recurses := true, plainKeys := false, apart := false, narrowed := true }
def FnExactStandsAtUptoSaid : Prop := fnExactStandsAtUptoRow.holds Try.pinned (OpenSpec.upto fnExactStandsAtSpec)

/-- 'laws.FnExactSteepestFall', WHERE WHAT IT READS IS OF BULK AT MOST 1048576: true; the input reads as it did. -/
def fnExactSteepestFallUptoRow : OpenClaim := { program := "ytegnhpanlbfmdaa", sum := "81684b8f112b88c8614b844f1fe77086810db2fb3ee58ae2c36ccf84fb1cb5f2", func := "loop.example/g01383/laws.FnExactSteepestFall", spec := "fnExactSteepestFall", unfollowed := true, recurses := true, plainKeys := false, apart := false, narrowed := true }
def FnExactSteepestFallUptoSaid : Prop := fnExactSteepestFallUptoRow.holds Try.pinned (OpenSpec.upto fnExactSteepestFallSpec)

/-- 'laws.FnExactFlatSteps', WHERE WHAT IT READS IS OF BULK AT MOST 1048576: true; the input reads as it did. -/
def fnExactFlatStepsUptoRow : OpenClaim := { program := "ytegnhpanlbfmdaa", sum := "81684b8f112b88c8614b844f1fe77086810db2fb3ee58ae2c36ccf84fb1cb5f2", func := "loop.example/g01383/laws.FnExactFlatSteps", spec := "fnExactFlatSteps", unfollowed := true, recurses := true, plainKeys := false, apart := false, narrowed := true }
def FnExactFlatStepsUptoSaid : Prop := fnExactFlatStepsUptoRow.holds Try.pinned (OpenSpec.upto fnExactFlatStepsSpec)

/-- 'laws.FnExactFillLevels', WHERE WHAT IT READS IS OF BULK AT MOST 1048576: true; the input reads as it did. -/
def fnExactFillLevelsUptoRow : OpenClaim := { program := "ytegnhpanlbfmdaa", sum := "81684b8f112b88c8614b844f1fe77086810db2fb3ee58ae2c36ccf84fb1cb5f2", func := "loop.example/g01383/laws.FnExactFillLevels", spec := "fnExactFillLevels", unfollowed := true, recurses := true, plainKeys := false, apart := false, narrowed := true }
def FnExactFillLevelsUptoSaid : Prop := fnExactFillLevelsUptoRow.holds Try.pinned (OpenSpec.upto fnExactFillLevelsSpec)

/-- 'laws.FnExactPoolSum', WHERE WHAT IT READS IS OF BULK AT MOST 1048576: true; the input reads as it did. -/
def fnExactPoolSumUptoRow : OpenClaim := { program := "ytegnhpanlbfmdaa", sum := "81684b8f112b88c8614b844f1fe77086810db2fb3ee58ae2c36ccf84fb1cb5f2", func := "loop.example/g01383/laws.FnExactPoolSum", spec := "fnExactPoolSum", unfollowed := true, recurses := true, plainKeys := false, apart := false, narrowed := true }
def FnExactPoolSumUptoSaid : Prop := fnExactPoolSumUptoRow.holds Try.pinned (OpenSpec.upto fnExactPoolSumSpec)

/-- 'laws.FnExactDrySquare', WHERE WHAT IT READS IS OF BULK AT MOST 1048576: true; the input reads as it did. -/
def fnExactDrySquareUptoRow : OpenClaim := { program := "ytegnhpanlbfmdaa", sum := "81684b8f112b88c8614b844f1fe77086810db2fb3ee58ae2c36ccf84fb1cb5f2", func := "loop.example/g01383/laws.FnExactDrySquare", spec := "fnExactDrySquare", unfollowed := true, recurses := true, plainKeys := false, apart := false, narrowed := true }
def FnExactDrySquareUptoSaid : Prop := fnExactDrySquareUptoRow.holds Try.pinned (OpenSpec.upto fnExactDrySquareSpec)

/-- 'laws.FnExactFewestGullies', WHERE WHAT IT READS IS OF BULK AT MOST 1048576: true; the input reads as it did. -/
def fnExactFewestGulliesUptoRow : OpenClaim := { program := "ytegnhpanlbfmdaa", sum := "81684b8f112b88c8614b844f1fe77086810db2fb3ee58ae2c36ccf84fb1cb5f2", func := "loop.example/g01383/laws.FnExactFewestGullies", spec := "fnExactFewestGullies", unfollowed := true, recurses := true, plainKeys := false, apart := false, narrowed := true }
def FnExactFewestGulliesUptoSaid : Prop := fnExactFewestGulliesUptoRow.holds Try.pinned (OpenSpec.upto fnExactFewestGulliesSpec)

/-- 'laws.FnExactSlopeGround', WHERE WHAT IT READS IS OF BULK AT MOST 1048576: true; the input reads as it did. -/
def fnExactSlopeGroundUptoRow : OpenClaim := { program := "ytegnhpanlbfmdaa", sum := "81684b8f112b88c8614b844f1fe77086810db2fb3ee58ae2c36ccf84fb1cb5f2", func := "loop.example/g01383/laws.FnExactSlopeGround", spec := "fnExactSlopeGround", unfollowed := true, recurses := true, plainKeys := false, apart := false, narrowed := true }
def FnExactSlopeGroundUptoSaid : Prop := fnExactSlopeGroundUptoRow.holds Try.pinned (OpenSpec.upto fnExactSlopeGroundSpec)

/-- 'laws.FnExactKeepsFall', WHERE WHAT IT READS IS OF BULK AT MOST 1048576: true; the input reads as it did. -/
def fnExactKeepsFallUptoRow : OpenClaim := { program := "ytegnhpanlbfmdaa", sum := "81684b8f112b88c8614b844f1fe77086810db2fb3ee58ae2c36ccf84fb1cb5f2", func := "loop.example/g01383/laws.FnExactKeepsFall", spec := "fnExactKeepsFall", unfollowed := true, recurses := true, plainKeys := false, apart := false, narrowed := true }
def FnExactKeepsFallUptoSaid : Prop := fnExactKeepsFallUptoRow.holds Try.pinned (OpenSpec.upto fnExactKeepsFallSpec)

/-- 'laws.FnExactFirstShort', WHERE WHAT IT READS IS OF BULK AT MOST 1048576: true; the input reads as it did. -/
def fnExactFirstShortUptoRow : OpenClaim := { program := "ytegnhpanlbfmdaa", sum := "81684b8f112b88c8614b844f1fe77086810db2fb3ee58ae2c36ccf84fb1cb5f2", func := "loop.example/g01383/laws.FnExactFirstShort", spec := "fnExactFirstShort", unfollowed := true, recurses := true, plainKeys := false, apart := false, narrowed := true }
def FnExactFirstShortUptoSaid : Prop := fnExactFirstShortUptoRow.holds Try.pinned (OpenSpec.upto fnExactFirstShortSpec)

/-- 'laws.FnExactRaiseAll', WHERE WHAT IT READS IS OF BULK AT MOST 1048576: true; the input reads as it did. -/
def fnExactRaiseAllUptoRow : OpenClaim := { program := "ytegnhpanlbfmdaa", sum := "81684b8f112b88c8614b844f1fe77086810db2fb3ee58ae2c36ccf84fb1cb5f2", func := "loop.example/g01383/laws.FnExactRaiseAll", spec := "fnExactRaiseAll", unfollowed := true, recurses := true, plainKeys := false, apart := false, narrowed := true }
def FnExactRaiseAllUptoSaid : Prop := fnExactRaiseAllUptoRow.holds Try.pinned (OpenSpec.upto fnExactRaiseAllSpec)

/-- 'laws.FnExactMirrorGround', WHERE WHAT IT READS IS OF BULK AT MOST 1048576: true; the input reads as it did. -/
def fnExactMirrorGroundUptoRow : OpenClaim := { program := "ytegnhpanlbfmdaa", sum := "81684b8f112b88c8614b844f1fe77086810db2fb3ee58ae2c36ccf84fb1cb5f2", func := "loop.example/g01383/laws.FnExactMirrorGround", spec := "fnExactMirrorGround", unfollowed := true, recurses := true, plainKeys := false, apart := false, narrowed := true }
def FnExactMirrorGroundUptoSaid : Prop := fnExactMirrorGroundUptoRow.holds Try.pinned (OpenSpec.upto fnExactMirrorGroundSpec)

/-- 'laws.FnExactLayRow', WHERE WHAT IT READS IS OF BULK AT MOST 1048576: true; the input reads as it did. -/
def fnExactLayRowUptoRow : OpenClaim := { program := "ytegnhpanlbfmdaa", sum := "81684b8f112b88c8614b844f1fe77086810db2fb3ee58ae2c36ccf84fb1cb5f2", func := "loop.example/g01383/laws.FnExactLayRow", spec := "fnExactLayRow", unfollowed := true, recurses := true, plainKeys := false, apart := false, narrowed := true }
def FnExactLayRowUptoSaid : Prop := fnExactLayRowUptoRow.holds Try.pinned (OpenSpec.upto fnExactLayRowSpec)

/-- 'laws.FnExactCutRow', WHERE WHAT IT READS IS OF BULK AT MOST 1048576: true; the input reads as it did. -/
def fnExactCutRowUptoRow : OpenClaim := { program := "ytegnhpanlbfmdaa", sum := "81684b8f112b88c8614b844f1fe77086810db2fb3ee58ae2c36ccf84fb1cb5f2", func := "loop.example/g01383/laws.FnExactCutRow", spec := "fnExactCutRow", unfollowed := true, recurses := true, plainKeys := false, apart := false, narrowed := true }
def FnExactCutRowUptoSaid : Prop := fnExactCutRowUptoRow.holds Try.pinned (OpenSpec.upto fnExactCutRowSpec)

/-- 'laws.FnExactJoinBows', WHERE WHAT IT READS IS OF BULK AT MOST 1048576: true; the input reads as it did. -/
def fnExactJoinBowsUptoRow : OpenClaim := { program := "ytegnhpanlbfmdaa", sum := "81684b8f112b88c8614b844f1fe77086810db2fb3ee58ae2c36ccf84fb1cb5f2", func := "loop.example/g01383/laws.FnExactJoinBows", spec := "fnExactJoinBows", unfollowed := true, recurses := true, plainKeys := false, apart := false, narrowed := true }
def FnExactJoinBowsUptoSaid : Prop := fnExactJoinBowsUptoRow.holds Try.pinned (OpenSpec.upto fnExactJoinBowsSpec)

/-- 'laws.FnBows', WHERE WHAT IT READS IS OF BULK AT MOST 1048576: true; the input reads as it did. -/
def fnBowsUptoRow : OpenClaim := { program := "ytegnhpanlbfmdaa", sum := "81684b8f112b88c8614b844f1fe77086810db2fb3ee58ae2c36ccf84fb1cb5f2", func := "loop.example/g01383/laws.FnBows", spec := "fnBows", unfollowed := true, recurses := true, plainKeys := false, apart := false, narrowed := true }
def FnBowsUptoSaid : Prop := fnBowsUptoRow.holds Try.pinned (OpenSpec.upto fnBowsSpec)

end Rows
end Go.Proofs.Ytegnhpanlbfmdaa
