/-
  No cell of these rows narrows 'for every input' (looked for: loops, veiled, ifaces, maps, wideKeys, modest, calm, conditions, laid).
  DERIVED. THE GIVEN ROWS OF THIS SEAT. 22 by the template 'for every input the law returns true; each argument reads behind the call as it read before'; 0 by the template 'total and deterministic' (their statements: YtkggimalkjjnoaaTotals.lean).
  GIVEN WITH THE SEED: the statements are not yours to turn. If you find one false, say at which input.
  Laid BY PROGRAM, IN A SANDBOX (cutbox-rows.mjs): the forced cells as the released guide's own fill.sh prints them over the translation d9610a96eef4a49d… (all of the seat's roots in one cut). By AI agents, Wed Nov 11 2026. No macro, syntax, notation, axiom, sorry.
-/
import Derived.Test.YtkggimalkjjnoaaChecked
import GoSem.Claim
import GoSem.ClaimJoined
import GoSem.ClaimMapViews
import Derived.JoinedTies
import Derived.KernelRfl
namespace Go.Proofs.Ytkggimalkjjnoaa
/- THE CELL 'sum', in the pinned program and in every row, IS THE sha256 OF THE DUMP (.gsa) THAT YtkggimalkjjnoaaProg.lean LOADS. Nothing in Lean hashes anything: it is a label: what it is worth is what the hold of that sum in a sandbox is worth. -/
noncomputable def Try.pinned : Pinned := { name := "ytkggimalkjjnoaa", sum := "d9610a96eef4a49d97c20ee5f40e5d8c5378f135be1154b4afcbc526f5aa2e30", checked := Try.checked }
namespace Rows
def none {H : Type} : Left H := { results := [], args := [] }

/-- 'laws.FnExactLiftedBy': WHATEVER THE INPUT: true; the input reads as it did. -/
def fnExactLiftedBySpec : ChangeSpec := { name := "fnExactLiftedBy", fn := fun _ => fun
  | [d1, d2] => { results := [.lit (.bool true)], args := [d1, d2] }
  | _ => none }
def fnExactLiftedByRow : OpenClaim := { program := "ytkggimalkjjnoaa", sum := "d9610a96eef4a49d97c20ee5f40e5d8c5378f135be1154b4afcbc526f5aa2e30", func := "loop.example/g01383/laws.FnExactLiftedBy", spec := "fnExactLiftedBy", unfollowed := true, recurses := true, plainKeys := false, apart := false }
def FnExactLiftedBySaid : Prop := fnExactLiftedByRow.holds Try.pinned (OpenSpec.ofChange fnExactLiftedBySpec)

/-- ITS FALSE NEIGHBOUR: 'it returns false'. Refute it at one input. -/
def fnExactLiftedByWrong : ChangeSpec := { name := "fnExactLiftedBy", fn := fun _ => fun
  | [d1, d2] => { results := [.lit (.bool false)], args := [d1, d2] }
  | _ => none }
def FnExactLiftedByWrongFalsely : Prop := fnExactLiftedByRow.holds Try.pinned (OpenSpec.ofChange fnExactLiftedByWrong)

/-- 'laws.FnExactLiftAll': WHATEVER THE INPUT: true; the input reads as it did. -/
def fnExactLiftAllSpec : ChangeSpec := { name := "fnExactLiftAll", fn := fun _ => fun
  | [d1, d2] => { results := [.lit (.bool true)], args := [d1, d2] }
  | _ => none }
def fnExactLiftAllRow : OpenClaim := { program := "ytkggimalkjjnoaa", sum := "d9610a96eef4a49d97c20ee5f40e5d8c5378f135be1154b4afcbc526f5aa2e30", func := "loop.example/g01383/laws.FnExactLiftAll", spec := "fnExactLiftAll", unfollowed := true, recurses := true, plainKeys := false, apart := false }
def FnExactLiftAllSaid : Prop := fnExactLiftAllRow.holds Try.pinned (OpenSpec.ofChange fnExactLiftAllSpec)

/-- ITS FALSE NEIGHBOUR: 'it returns false'. Refute it at one input. -/
def fnExactLiftAllWrong : ChangeSpec := { name := "fnExactLiftAll", fn := fun _ => fun
  | [d1, d2] => { results := [.lit (.bool false)], args := [d1, d2] }
  | _ => none }
def FnExactLiftAllWrongFalsely : Prop := fnExactLiftAllRow.holds Try.pinned (OpenSpec.ofChange fnExactLiftAllWrong)

/-- 'laws.FnExactCanLay': WHATEVER THE INPUT: true; the input reads as it did. -/
def fnExactCanLaySpec : ChangeSpec := { name := "fnExactCanLay", fn := fun _ => fun
  | [d1, d2] => { results := [.lit (.bool true)], args := [d1, d2] }
  | _ => none }
def fnExactCanLayRow : OpenClaim := { program := "ytkggimalkjjnoaa", sum := "d9610a96eef4a49d97c20ee5f40e5d8c5378f135be1154b4afcbc526f5aa2e30", func := "loop.example/g01383/laws.FnExactCanLay", spec := "fnExactCanLay", unfollowed := true, recurses := true, plainKeys := false, apart := false }
def FnExactCanLaySaid : Prop := fnExactCanLayRow.holds Try.pinned (OpenSpec.ofChange fnExactCanLaySpec)

/-- ITS FALSE NEIGHBOUR: 'it returns false'. Refute it at one input. -/
def fnExactCanLayWrong : ChangeSpec := { name := "fnExactCanLay", fn := fun _ => fun
  | [d1, d2] => { results := [.lit (.bool false)], args := [d1, d2] }
  | _ => none }
def FnExactCanLayWrongFalsely : Prop := fnExactCanLayRow.holds Try.pinned (OpenSpec.ofChange fnExactCanLayWrong)

/-- 'laws.FnExactLayAll': WHATEVER THE INPUT: true; the input reads as it did. -/
def fnExactLayAllSpec : ChangeSpec := { name := "fnExactLayAll", fn := fun _ => fun
  | [d1, d2, d3] => { results := [.lit (.bool true)], args := [d1, d2, d3] }
  | _ => none }
def fnExactLayAllRow : OpenClaim := { program := "ytkggimalkjjnoaa", sum := "d9610a96eef4a49d97c20ee5f40e5d8c5378f135be1154b4afcbc526f5aa2e30", func := "loop.example/g01383/laws.FnExactLayAll", spec := "fnExactLayAll", unfollowed := true, recurses := true, plainKeys := false, apart := false }
def FnExactLayAllSaid : Prop := fnExactLayAllRow.holds Try.pinned (OpenSpec.ofChange fnExactLayAllSpec)

/-- ITS FALSE NEIGHBOUR: 'it returns false'. Refute it at one input. -/
def fnExactLayAllWrong : ChangeSpec := { name := "fnExactLayAll", fn := fun _ => fun
  | [d1, d2, d3] => { results := [.lit (.bool false)], args := [d1, d2, d3] }
  | _ => none }
def FnExactLayAllWrongFalsely : Prop := fnExactLayAllRow.holds Try.pinned (OpenSpec.ofChange fnExactLayAllWrong)

/-- 'laws.FnExactLayOrder': WHATEVER THE INPUT: true; the input reads as it did. -/
def fnExactLayOrderSpec : ChangeSpec := { name := "fnExactLayOrder", fn := fun _ => fun
  | [d1, d2] => { results := [.lit (.bool true)], args := [d1, d2] }
  | _ => none }
def fnExactLayOrderRow : OpenClaim := { program := "ytkggimalkjjnoaa", sum := "d9610a96eef4a49d97c20ee5f40e5d8c5378f135be1154b4afcbc526f5aa2e30", func := "loop.example/g01383/laws.FnExactLayOrder", spec := "fnExactLayOrder", unfollowed := true, recurses := true, plainKeys := false, apart := false }
def FnExactLayOrderSaid : Prop := fnExactLayOrderRow.holds Try.pinned (OpenSpec.ofChange fnExactLayOrderSpec)

/-- ITS FALSE NEIGHBOUR: 'it returns false'. Refute it at one input. -/
def fnExactLayOrderWrong : ChangeSpec := { name := "fnExactLayOrder", fn := fun _ => fun
  | [d1, d2] => { results := [.lit (.bool false)], args := [d1, d2] }
  | _ => none }
def FnExactLayOrderWrongFalsely : Prop := fnExactLayOrderRow.holds Try.pinned (OpenSpec.ofChange fnExactLayOrderWrong)

/-- 'laws.FnExactCountOrders': WHATEVER THE INPUT: true; the input reads as it did. -/
def fnExactCountOrdersSpec : ChangeSpec := { name := "fnExactCountOrders", fn := fun _ => fun
  | [d1, d2] => { results := [.lit (.bool true)], args := [d1, d2] }
  | _ => none }
def fnExactCountOrdersRow : OpenClaim := { program := "ytkggimalkjjnoaa", sum := "d9610a96eef4a49d97c20ee5f40e5d8c5378f135be1154b4afcbc526f5aa2e30", func := "loop.example/g01383/laws.FnExactCountOrders", spec := "fnExactCountOrders", unfollowed := true, recurses := true, plainKeys := false, apart := false }
def FnExactCountOrdersSaid : Prop := fnExactCountOrdersRow.holds Try.pinned (OpenSpec.ofChange fnExactCountOrdersSpec)

/-- ITS FALSE NEIGHBOUR: 'it returns false'. Refute it at one input. -/
def fnExactCountOrdersWrong : ChangeSpec := { name := "fnExactCountOrders", fn := fun _ => fun
  | [d1, d2] => { results := [.lit (.bool false)], args := [d1, d2] }
  | _ => none }
def FnExactCountOrdersWrongFalsely : Prop := fnExactCountOrdersRow.holds Try.pinned (OpenSpec.ofChange fnExactCountOrdersWrong)

/-- 'laws.FnExactFewestStacks': WHATEVER THE INPUT: true; the input reads as it did. -/
def fnExactFewestStacksSpec : ChangeSpec := { name := "fnExactFewestStacks", fn := fun _ => fun
  | [d1, d2] => { results := [.lit (.bool true)], args := [d1, d2] }
  | _ => none }
def fnExactFewestStacksRow : OpenClaim := { program := "ytkggimalkjjnoaa", sum := "d9610a96eef4a49d97c20ee5f40e5d8c5378f135be1154b4afcbc526f5aa2e30", func := "loop.example/g01383/laws.FnExactFewestStacks", spec := "fnExactFewestStacks", unfollowed := true, recurses := true, plainKeys := false, apart := false }
def FnExactFewestStacksSaid : Prop := fnExactFewestStacksRow.holds Try.pinned (OpenSpec.ofChange fnExactFewestStacksSpec)

/-- ITS FALSE NEIGHBOUR: 'it returns false'. Refute it at one input. -/
def fnExactFewestStacksWrong : ChangeSpec := { name := "fnExactFewestStacks", fn := fun _ => fun
  | [d1, d2] => { results := [.lit (.bool false)], args := [d1, d2] }
  | _ => none }
def FnExactFewestStacksWrongFalsely : Prop := fnExactFewestStacksRow.holds Try.pinned (OpenSpec.ofChange fnExactFewestStacksWrong)

/-- 'laws.FnExactCheckStacks': WHATEVER THE INPUT: true; the input reads as it did. -/
def fnExactCheckStacksSpec : ChangeSpec := { name := "fnExactCheckStacks", fn := fun _ => fun
  | [d1, d2, d3] => { results := [.lit (.bool true)], args := [d1, d2, d3] }
  | _ => none }
def fnExactCheckStacksRow : OpenClaim := { program := "ytkggimalkjjnoaa", sum := "d9610a96eef4a49d97c20ee5f40e5d8c5378f135be1154b4afcbc526f5aa2e30", func := "loop.example/g01383/laws.FnExactCheckStacks", spec := "fnExactCheckStacks", unfollowed := true, recurses := true, plainKeys := false, apart := false }
def FnExactCheckStacksSaid : Prop := fnExactCheckStacksRow.holds Try.pinned (OpenSpec.ofChange fnExactCheckStacksSpec)

/-- ITS FALSE NEIGHBOUR: 'it returns false'. Refute it at one input. -/
def fnExactCheckStacksWrong : ChangeSpec := { name := "fnExactCheckStacks", fn := fun _ => fun
  | [d1, d2, d3] => { results := [.lit (.bool false)], args := [d1, d2, d3] }
  | _ => none }
def FnExactCheckStacksWrongFalsely : Prop := fnExactCheckStacksRow.holds Try.pinned (OpenSpec.ofChange fnExactCheckStacksWrong)

/-- 'laws.FnExactTakeOrder': WHATEVER THE INPUT: true; the input reads as it did. -/
def fnExactTakeOrderSpec : ChangeSpec := { name := "fnExactTakeOrder", fn := fun _ => fun
  | [d1, d2] => { results := [.lit (.bool true)], args := [d1, d2] }
  | _ => none }
def fnExactTakeOrderRow : OpenClaim := { program := "ytkggimalkjjnoaa", sum := "d9610a96eef4a49d97c20ee5f40e5d8c5378f135be1154b4afcbc526f5aa2e30", func := "loop.example/g01383/laws.FnExactTakeOrder", spec := "fnExactTakeOrder", unfollowed := true, recurses := true, plainKeys := false, apart := false }
def FnExactTakeOrderSaid : Prop := fnExactTakeOrderRow.holds Try.pinned (OpenSpec.ofChange fnExactTakeOrderSpec)

/-- ITS FALSE NEIGHBOUR: 'it returns false'. Refute it at one input. -/
def fnExactTakeOrderWrong : ChangeSpec := { name := "fnExactTakeOrder", fn := fun _ => fun
  | [d1, d2] => { results := [.lit (.bool false)], args := [d1, d2] }
  | _ => none }
def FnExactTakeOrderWrongFalsely : Prop := fnExactTakeOrderRow.holds Try.pinned (OpenSpec.ofChange fnExactTakeOrderWrong)

/-- 'laws.FnExactWeightOf': WHATEVER THE INPUT: true; the input reads as it did. -/
def fnExactWeightOfSpec : ChangeSpec := { name := "fnExactWeightOf", fn := fun _ => fun
  | [d] => { results := [.lit (.bool true)], args := [d] }
  | _ => none }
def fnExactWeightOfRow : OpenClaim := { program := "ytkggimalkjjnoaa", sum := "d9610a96eef4a49d97c20ee5f40e5d8c5378f135be1154b4afcbc526f5aa2e30", func := "loop.example/g01383/laws.FnExactWeightOf", spec := "fnExactWeightOf", plainKeys := false, apart := false }
def FnExactWeightOfSaid : Prop := fnExactWeightOfRow.holds Try.pinned (OpenSpec.ofChange fnExactWeightOfSpec)

/-- ITS FALSE NEIGHBOUR: 'it returns false'. Refute it at one input. -/
def fnExactWeightOfWrong : ChangeSpec := { name := "fnExactWeightOf", fn := fun _ => fun
  | [d] => { results := [.lit (.bool false)], args := [d] }
  | _ => none }
def FnExactWeightOfWrongFalsely : Prop := fnExactWeightOfRow.holds Try.pinned (OpenSpec.ofChange fnExactWeightOfWrong)

/-- 'laws.FnExactBarrowLoads': WHATEVER THE INPUT: true; the input reads as it did. -/
def fnExactBarrowLoadsSpec : ChangeSpec := { name := "fnExactBarrowLoads", fn := fun _ => fun
  | [d1, d2] => { results := [.lit (.bool true)], args := [d1, d2] }
  | _ => none }
def fnExactBarrowLoadsRow : OpenClaim := { program := "ytkggimalkjjnoaa", sum := "d9610a96eef4a49d97c20ee5f40e5d8c5378f135be1154b4afcbc526f5aa2e30", func := "loop.example/g01383/laws.FnExactBarrowLoads", spec := "fnExactBarrowLoads", plainKeys := false, apart := false }
def FnExactBarrowLoadsSaid : Prop := fnExactBarrowLoadsRow.holds Try.pinned (OpenSpec.ofChange fnExactBarrowLoadsSpec)

/-- ITS FALSE NEIGHBOUR: 'it returns false'. Refute it at one input. -/
def fnExactBarrowLoadsWrong : ChangeSpec := { name := "fnExactBarrowLoads", fn := fun _ => fun
  | [d1, d2] => { results := [.lit (.bool false)], args := [d1, d2] }
  | _ => none }
def FnExactBarrowLoadsWrongFalsely : Prop := fnExactBarrowLoadsRow.holds Try.pinned (OpenSpec.ofChange fnExactBarrowLoadsWrong)

/-- 'laws.FnExactFewestLoads': WHATEVER THE INPUT: true; the input reads as it did. -/
def fnExactFewestLoadsSpec : ChangeSpec := { name := "fnExactFewestLoads", fn := fun _ => fun
  | [d1, d2] => { results := [.lit (.bool true)], args := [d1, d2] }
  | _ => none }
def fnExactFewestLoadsRow : OpenClaim := { program := "ytkggimalkjjnoaa", sum := "d9610a96eef4a49d97c20ee5f40e5d8c5378f135be1154b4afcbc526f5aa2e30", func := "loop.example/g01383/laws.FnExactFewestLoads", spec := "fnExactFewestLoads", recurses := true, plainKeys := false, apart := false }
def FnExactFewestLoadsSaid : Prop := fnExactFewestLoadsRow.holds Try.pinned (OpenSpec.ofChange fnExactFewestLoadsSpec)

/-- ITS FALSE NEIGHBOUR: 'it returns false'. Refute it at one input. -/
def fnExactFewestLoadsWrong : ChangeSpec := { name := "fnExactFewestLoads", fn := fun _ => fun
  | [d1, d2] => { results := [.lit (.bool false)], args := [d1, d2] }
  | _ => none }
def FnExactFewestLoadsWrongFalsely : Prop := fnExactFewestLoadsRow.holds Try.pinned (OpenSpec.ofChange fnExactFewestLoadsWrong)

/-- 'laws.FnExactTwoBarrows': WHATEVER THE INPUT: true; the input reads as it did. -/
def fnExactTwoBarrowsSpec : ChangeSpec := { name := "fnExactTwoBarrows", fn := fun _ => fun
  | [d] => { results := [.lit (.bool true)], args := [d] }
  | _ => none }
def fnExactTwoBarrowsRow : OpenClaim := { program := "ytkggimalkjjnoaa", sum := "d9610a96eef4a49d97c20ee5f40e5d8c5378f135be1154b4afcbc526f5aa2e30", func := "loop.example/g01383/laws.FnExactTwoBarrows", spec := "fnExactTwoBarrows", unfollowed := true, recurses := true, plainKeys := false, apart := false }
def FnExactTwoBarrowsSaid : Prop := fnExactTwoBarrowsRow.holds Try.pinned (OpenSpec.ofChange fnExactTwoBarrowsSpec)

/-- ITS FALSE NEIGHBOUR: 'it returns false'. Refute it at one input. -/
def fnExactTwoBarrowsWrong : ChangeSpec := { name := "fnExactTwoBarrows", fn := fun _ => fun
  | [d] => { results := [.lit (.bool false)], args := [d] }
  | _ => none }
def FnExactTwoBarrowsWrongFalsely : Prop := fnExactTwoBarrowsRow.holds Try.pinned (OpenSpec.ofChange fnExactTwoBarrowsWrong)

/-- 'laws.FnExactFewestLifted': WHATEVER THE INPUT: true; the input reads as it did. -/
def fnExactFewestLiftedSpec : ChangeSpec := { name := "fnExactFewestLifted", fn := fun _ => fun
  | [d1, d2, d3] => { results := [.lit (.bool true)], args := [d1, d2, d3] }
  | _ => none }
def fnExactFewestLiftedRow : OpenClaim := { program := "ytkggimalkjjnoaa", sum := "d9610a96eef4a49d97c20ee5f40e5d8c5378f135be1154b4afcbc526f5aa2e30", func := "loop.example/g01383/laws.FnExactFewestLifted", spec := "fnExactFewestLifted", unfollowed := true, recurses := true, plainKeys := false, apart := false }
def FnExactFewestLiftedSaid : Prop := fnExactFewestLiftedRow.holds Try.pinned (OpenSpec.ofChange fnExactFewestLiftedSpec)

/-- ITS FALSE NEIGHBOUR: 'it returns false'. Refute it at one input. -/
def fnExactFewestLiftedWrong : ChangeSpec := { name := "fnExactFewestLifted", fn := fun _ => fun
  | [d1, d2, d3] => { results := [.lit (.bool false)], args := [d1, d2, d3] }
  | _ => none }
def FnExactFewestLiftedWrongFalsely : Prop := fnExactFewestLiftedRow.holds Try.pinned (OpenSpec.ofChange fnExactFewestLiftedWrong)

/-- 'laws.FnExactWayUnder': WHATEVER THE INPUT: true; the input reads as it did. -/
def fnExactWayUnderSpec : ChangeSpec := { name := "fnExactWayUnder", fn := fun _ => fun
  | [d1, d2, d3] => { results := [.lit (.bool true)], args := [d1, d2, d3] }
  | _ => none }
def fnExactWayUnderRow : OpenClaim := { program := "ytkggimalkjjnoaa", sum := "d9610a96eef4a49d97c20ee5f40e5d8c5378f135be1154b4afcbc526f5aa2e30", func := "loop.example/g01383/laws.FnExactWayUnder", spec := "fnExactWayUnder", unfollowed := true, recurses := true, plainKeys := false, apart := false }
def FnExactWayUnderSaid : Prop := fnExactWayUnderRow.holds Try.pinned (OpenSpec.ofChange fnExactWayUnderSpec)

/-- ITS FALSE NEIGHBOUR: 'it returns false'. Refute it at one input. -/
def fnExactWayUnderWrong : ChangeSpec := { name := "fnExactWayUnder", fn := fun _ => fun
  | [d1, d2, d3] => { results := [.lit (.bool false)], args := [d1, d2, d3] }
  | _ => none }
def FnExactWayUnderWrongFalsely : Prop := fnExactWayUnderRow.holds Try.pinned (OpenSpec.ofChange fnExactWayUnderWrong)

/-- 'laws.FnExactBesideSlab': WHATEVER THE INPUT: true; the input reads as it did. -/
def fnExactBesideSlabSpec : ChangeSpec := { name := "fnExactBesideSlab", fn := fun _ => fun
  | [d1, d2] => { results := [.lit (.bool true)], args := [d1, d2] }
  | _ => none }
def fnExactBesideSlabRow : OpenClaim := { program := "ytkggimalkjjnoaa", sum := "d9610a96eef4a49d97c20ee5f40e5d8c5378f135be1154b4afcbc526f5aa2e30", func := "loop.example/g01383/laws.FnExactBesideSlab", spec := "fnExactBesideSlab", unfollowed := true, recurses := true, plainKeys := false, apart := false }
def FnExactBesideSlabSaid : Prop := fnExactBesideSlabRow.holds Try.pinned (OpenSpec.ofChange fnExactBesideSlabSpec)

/-- ITS FALSE NEIGHBOUR: 'it returns false'. Refute it at one input. -/
def fnExactBesideSlabWrong : ChangeSpec := { name := "fnExactBesideSlab", fn := fun _ => fun
  | [d1, d2] => { results := [.lit (.bool false)], args := [d1, d2] }
  | _ => none }
def FnExactBesideSlabWrongFalsely : Prop := fnExactBesideSlabRow.holds Try.pinned (OpenSpec.ofChange fnExactBesideSlabWrong)

/-- 'laws.FnExactFillWith': WHATEVER THE INPUT: true; the input reads as it did. -/
def fnExactFillWithSpec : ChangeSpec := { name := "fnExactFillWith", fn := fun _ => fun
  | [d1, d2, d3] => { results := [.lit (.bool true)], args := [d1, d2, d3] }
  | _ => none }
def fnExactFillWithRow : OpenClaim := { program := "ytkggimalkjjnoaa", sum := "d9610a96eef4a49d97c20ee5f40e5d8c5378f135be1154b4afcbc526f5aa2e30", func := "loop.example/g01383/laws.FnExactFillWith", spec := "fnExactFillWith", unfollowed := true, recurses := true, plainKeys := false, apart := false }
def FnExactFillWithSaid : Prop := fnExactFillWithRow.holds Try.pinned (OpenSpec.ofChange fnExactFillWithSpec)

/-- ITS FALSE NEIGHBOUR: 'it returns false'. Refute it at one input. -/
def fnExactFillWithWrong : ChangeSpec := { name := "fnExactFillWith", fn := fun _ => fun
  | [d1, d2, d3] => { results := [.lit (.bool false)], args := [d1, d2, d3] }
  | _ => none }
def FnExactFillWithWrongFalsely : Prop := fnExactFillWithRow.holds Try.pinned (OpenSpec.ofChange fnExactFillWithWrong)

/-- 'laws.FnExactMirrorGround': WHATEVER THE INPUT: true; the input reads as it did. -/
def fnExactMirrorGroundSpec : ChangeSpec := { name := "fnExactMirrorGround", fn := fun _ => fun
  | [d] => { results := [.lit (.bool true)], args := [d] }
  | _ => none }
def fnExactMirrorGroundRow : OpenClaim := { program := "ytkggimalkjjnoaa", sum := "d9610a96eef4a49d97c20ee5f40e5d8c5378f135be1154b4afcbc526f5aa2e30", func := "loop.example/g01383/laws.FnExactMirrorGround", spec := "fnExactMirrorGround", unfollowed := true, recurses := true, plainKeys := false, apart := false }
def FnExactMirrorGroundSaid : Prop := fnExactMirrorGroundRow.holds Try.pinned (OpenSpec.ofChange fnExactMirrorGroundSpec)

/-- ITS FALSE NEIGHBOUR: 'it returns false'. Refute it at one input. -/
def fnExactMirrorGroundWrong : ChangeSpec := { name := "fnExactMirrorGround", fn := fun _ => fun
  | [d] => { results := [.lit (.bool false)], args := [d] }
  | _ => none }
def FnExactMirrorGroundWrongFalsely : Prop := fnExactMirrorGroundRow.holds Try.pinned (OpenSpec.ofChange fnExactMirrorGroundWrong)

/-- 'laws.FnExactStandsAt': WHATEVER THE INPUT: true; the input reads as it did. -/
def fnExactStandsAtSpec : ChangeSpec := { name := "fnExactStandsAt", fn := fun _ => fun
  | [d] => { results := [.lit (.bool true)], args := [d] }
  | _ => none }
def fnExactStandsAtRow : OpenClaim := { program := "ytkggimalkjjnoaa", sum := "d9610a96eef4a49d97c20ee5f40e5d8c5378f135be1154b4afcbc526f5aa2e30", func := "loop.example/g01383/laws.FnExactStandsAt", spec := "fnExactStandsAt", unfollowed := true, recurses := true, plainKeys := false, apart := false }
def FnExactStandsAtSaid : Prop := fnExactStandsAtRow.holds Try.pinned (OpenSpec.ofChange fnExactStandsAtSpec)

/-- ITS FALSE NEIGHBOUR: 'it returns false'. Refute it at one input. -/
def fnExactStandsAtWrong : ChangeSpec := { name := "fnExactStandsAt", fn := fun _ => fun
  | [d] => { results := [.lit (.bool false)], args := [d] }
  | _ => none }
def FnExactStandsAtWrongFalsely : Prop := fnExactStandsAtRow.holds Try.pinned (OpenSpec.ofChange fnExactStandsAtWrong)

/-- 'laws.FnExactPartAt': WHATEVER THE INPUT: true; the input reads as it did. -/
def fnExactPartAtSpec : ChangeSpec := { name := "fnExactPartAt", fn := fun _ => fun
  | [d1, d2, d3] => { results := [.lit (.bool true)], args := [d1, d2, d3] }
  | _ => none }
def fnExactPartAtRow : OpenClaim := { program := "ytkggimalkjjnoaa", sum := "d9610a96eef4a49d97c20ee5f40e5d8c5378f135be1154b4afcbc526f5aa2e30", func := "loop.example/g01383/laws.FnExactPartAt", spec := "fnExactPartAt", unfollowed := true, recurses := true, plainKeys := false, apart := false }
def FnExactPartAtSaid : Prop := fnExactPartAtRow.holds Try.pinned (OpenSpec.ofChange fnExactPartAtSpec)

/-- ITS FALSE NEIGHBOUR: 'it returns false'. Refute it at one input. -/
def fnExactPartAtWrong : ChangeSpec := { name := "fnExactPartAt", fn := fun _ => fun
  | [d1, d2, d3] => { results := [.lit (.bool false)], args := [d1, d2, d3] }
  | _ => none }
def FnExactPartAtWrongFalsely : Prop := fnExactPartAtRow.holds Try.pinned (OpenSpec.ofChange fnExactPartAtWrong)

/-- 'laws.FnExactFirstGap': WHATEVER THE INPUT: true; the input reads as it did. -/
def fnExactFirstGapSpec : ChangeSpec := { name := "fnExactFirstGap", fn := fun _ => fun
  | [d] => { results := [.lit (.bool true)], args := [d] }
  | _ => none }
def fnExactFirstGapRow : OpenClaim := { program := "ytkggimalkjjnoaa", sum := "d9610a96eef4a49d97c20ee5f40e5d8c5378f135be1154b4afcbc526f5aa2e30", func := "loop.example/g01383/laws.FnExactFirstGap", spec := "fnExactFirstGap", unfollowed := true, recurses := true, plainKeys := false, apart := false }
def FnExactFirstGapSaid : Prop := fnExactFirstGapRow.holds Try.pinned (OpenSpec.ofChange fnExactFirstGapSpec)

/-- ITS FALSE NEIGHBOUR: 'it returns false'. Refute it at one input. -/
def fnExactFirstGapWrong : ChangeSpec := { name := "fnExactFirstGap", fn := fun _ => fun
  | [d] => { results := [.lit (.bool false)], args := [d] }
  | _ => none }
def FnExactFirstGapWrongFalsely : Prop := fnExactFirstGapRow.holds Try.pinned (OpenSpec.ofChange fnExactFirstGapWrong)

/-- 'laws.FnExactCoversPlane': WHATEVER THE INPUT: true; the input reads as it did. -/
def fnExactCoversPlaneSpec : ChangeSpec := { name := "fnExactCoversPlane", fn := fun _ => fun
  | [d] => { results := [.lit (.bool true)], args := [d] }
  | _ => none }
def fnExactCoversPlaneRow : OpenClaim := { program := "ytkggimalkjjnoaa", sum := "d9610a96eef4a49d97c20ee5f40e5d8c5378f135be1154b4afcbc526f5aa2e30", func := "loop.example/g01383/laws.FnExactCoversPlane", spec := "fnExactCoversPlane", unfollowed := true, recurses := true, plainKeys := false, apart := false }
def FnExactCoversPlaneSaid : Prop := fnExactCoversPlaneRow.holds Try.pinned (OpenSpec.ofChange fnExactCoversPlaneSpec)

/-- ITS FALSE NEIGHBOUR: 'it returns false'. Refute it at one input. -/
def fnExactCoversPlaneWrong : ChangeSpec := { name := "fnExactCoversPlane", fn := fun _ => fun
  | [d] => { results := [.lit (.bool false)], args := [d] }
  | _ => none }
def FnExactCoversPlaneWrongFalsely : Prop := fnExactCoversPlaneRow.holds Try.pinned (OpenSpec.ofChange fnExactCoversPlaneWrong)

/- THE SECOND FORM. 'bulk': how many values and letters a reading holds, each counted each time it is reached (what is shared counts as often as it is met; a slice's spare places count too). A statement '..UptoSaid' is the law's where the arguments, and the package variables that the reading takes, are together of bulk at most 1048576: NARROWER than '..Said'. Prove '..Said' where nothing that the law and all that it calls make is longer than what came in: it says more and counts as full. Else prove '..UptoSaid'. A law counts once. -/
mutual
def uptoBulk {H : Type} : DataW H → Nat
  | .lit (.string bytes) => bytes.length + 1
  | .lit _ => 1
  | .nil => 1
  | .ptr d => uptoBulk d + 1
  | .slice elems spare => uptoBulkAll elems + uptoBulkAll spare + 1
  | .agg parts => uptoBulkAll parts + 1
  | .iface _ d => uptoBulk d + 1
  | .map entries => uptoBulkEntries entries + 1
  | .held _ => 1
def uptoBulkAll {H : Type} : List (DataW H) → Nat
  | [] => 0
  | d :: r => uptoBulk d + uptoBulkAll r
def uptoBulkEntries {H : Type} : List (Lit × DataW H) → Nat
  | [] => 0
  | x :: r => uptoBulkEntry x + uptoBulkEntries r
def uptoBulkEntry {H : Type} : Lit × DataW H → Nat
  | (.string bytes, d) => bytes.length + uptoBulk d + 1
  | (_, d) => uptoBulk d + 1
 end
def uptoSmall : (H : Type) → List (DataW H) → Bool := fun _ ds => decide (uptoBulkAll ds ≤ 1048576)
def OpenSpec.upto (s : _root_.Go.ChangeSpec) : _root_.Go.OpenSpec := { _root_.Go.OpenSpec.ofChange s with cond := some uptoSmall }

/-- 'laws.FnExactLiftedBy', WHERE WHAT IT READS IS OF BULK AT MOST 1048576: true; the input reads as it did. -/
def fnExactLiftedByUptoRow : OpenClaim := { program := "ytkggimalkjjnoaa", sum := "d9610a96eef4a49d97c20ee5f40e5d8c5378f135be1154b4afcbc526f5aa2e30", func := "loop.example/g01383/laws.FnExactLiftedBy", spec := "fnExactLiftedBy", unfollowed := true, recurses := true, plainKeys := false, apart := false, narrowed := true }
def FnExactLiftedByUptoSaid : Prop := fnExactLiftedByUptoRow.holds Try.pinned (OpenSpec.upto fnExactLiftedBySpec)

/-- 'laws.FnExactLiftAll', WHERE WHAT IT READS IS OF BULK AT MOST 1048576: true; the input reads as it did. -/
def fnExactLiftAllUptoRow : OpenClaim := { program := "ytkggimalkjjnoaa", sum := "d9610a96eef4a49d97c20ee5f40e5d8c5378f135be1154b4afcbc526f5aa2e30", func := "loop.example/g01383/laws.FnExactLiftAll", spec := "fnExactLiftAll", unfollowed := true, recurses := true, plainKeys := false, apart := false, narrowed := true }
def FnExactLiftAllUptoSaid : Prop := fnExactLiftAllUptoRow.holds Try.pinned (OpenSpec.upto fnExactLiftAllSpec)

/-- 'laws.FnExactCanLay', WHERE WHAT IT READS IS OF BULK AT MOST 1048576: true; the input reads as it did. -/
def fnExactCanLayUptoRow : OpenClaim := { program := "ytkggimalkjjnoaa", sum := "d9610a96eef4a49d97c20ee5f40e5d8c5378f135be1154b4afcbc526f5aa2e30", func := "loop.example/g01383/laws.FnExactCanLay", spec := "fnExactCanLay", unfollowed := true, recurses := true, plainKeys := false, apart := false, narrowed := true }
def FnExactCanLayUptoSaid : Prop := fnExactCanLayUptoRow.holds Try.pinned (OpenSpec.upto fnExactCanLaySpec)

/-- 'laws.FnExactLayAll', WHERE WHAT IT READS IS OF BULK AT MOST 1048576: true; the input reads as it did. -/
def fnExactLayAllUptoRow : OpenClaim := { program := "ytkggimalkjjnoaa", sum := "d9610a96eef4a49d97c20ee5f40e5d8c5378f135be1154b4afcbc526f5aa2e30", func := "loop.example/g01383/laws.FnExactLayAll", spec := "fnExactLayAll", unfollowed := true, recurses := true, plainKeys := false, apart := false, narrowed := true }
def FnExactLayAllUptoSaid : Prop := fnExactLayAllUptoRow.holds Try.pinned (OpenSpec.upto fnExactLayAllSpec)

/-- 'laws.FnExactLayOrder', WHERE WHAT IT READS IS OF BULK AT MOST 1048576: true; the input reads as it did. -/
def fnExactLayOrderUptoRow : OpenClaim := { program := "ytkggimalkjjnoaa", sum := "d9610a96eef4a49d97c20ee5f40e5d8c5378f135be1154b4afcbc526f5aa2e30", func := "loop.example/g01383/laws.FnExactLayOrder", spec := "fnExactLayOrder", unfollowed := true, recurses := true, plainKeys := false, apart := false, narrowed := true }
def FnExactLayOrderUptoSaid : Prop := fnExactLayOrderUptoRow.holds Try.pinned (OpenSpec.upto fnExactLayOrderSpec)

/-- 'laws.FnExactCountOrders', WHERE WHAT IT READS IS OF BULK AT MOST 1048576: true; the input reads as it did. -/
def fnExactCountOrdersUptoRow : OpenClaim := { program := "ytkggimalkjjnoaa", sum := "d9610a96eef4a49d97c20ee5f40e5d8c5378f135be1154b4afcbc526f5aa2e30", func := "loop.example/g01383/laws.FnExactCountOrders", spec := "fnExactCountOrders", unfollowed := true, recurses := true, plainKeys := false, apart := false, narrowed := true }
def FnExactCountOrdersUptoSaid : Prop := fnExactCountOrdersUptoRow.holds Try.pinned (OpenSpec.upto fnExactCountOrdersSpec)

/-- 'laws.FnExactFewestStacks', WHERE WHAT IT READS IS OF BULK AT MOST 1048576: true; the input reads as it did. -/
def fnExactFewestStacksUptoRow : OpenClaim := { program := "ytkggimalkjjnoaa", sum := "d9610a96eef4a49d97c20ee5f40e5d8c5378f135be1154b4afcbc526f5aa2e30", func := "loop.example/g01383/laws.FnExactFewestStacks", spec := "fnExactFewestStacks", unfollowed := true, recurses := true, plainKeys := false, apart := false, narrowed := true }
def FnExactFewestStacksUptoSaid : Prop := fnExactFewestStacksUptoRow.holds Try.pinned (OpenSpec.upto fnExactFewestStacksSpec)

/-- 'laws.FnExactCheckStacks', WHERE WHAT IT READS IS OF BULK AT MOST 1048576: true; the input reads as it did. -/
def fnExactCheckStacksUptoRow : OpenClaim := { program := "ytkggimalkjjnoaa", sum := "d9610a96eef4a49d97c20ee5f40e5d8c5378f135be1154b4afcbc526f5aa2e30", func := "loop.example/g01383/laws.FnExactCheckStacks", spec := "fnExactCheckStacks", unfollowed := true, recurses := true, plainKeys := false, apart := false, narrowed := true }
def FnExactCheckStacksUptoSaid : Prop := fnExactCheckStacksUptoRow.holds Try.pinned (OpenSpec.upto fnExactCheckStacksSpec)

/-- 'laws.FnExactTakeOrder', WHERE WHAT IT READS IS OF BULK AT MOST 1048576: true; the input reads as it did. -/
def fnExactTakeOrderUptoRow : OpenClaim := { program := "ytkggimalkjjnoaa", sum := "d9610a96eef4a49d97c20ee5f40e5d8c5378f135be1154b4afcbc526f5aa2e30", func := "loop.example/g01383/laws.FnExactTakeOrder", spec := "fnExactTakeOrder", unfollowed := true, recurses := true, plainKeys := false, apart := false, narrowed := true }
def FnExactTakeOrderUptoSaid : Prop := fnExactTakeOrderUptoRow.holds Try.pinned (OpenSpec.upto fnExactTakeOrderSpec)

/-- 'laws.FnExactWeightOf', WHERE WHAT IT READS IS OF BULK AT MOST 1048576: true; the input reads as it did. -/
def fnExactWeightOfUptoRow : OpenClaim := { program := "ytkggimalkjjnoaa", sum := "d9610a96eef4a49d97c20ee5f40e5d8c5378f135be1154b4afcbc526f5aa2e30", func := "loop.example/g01383/laws.FnExactWeightOf", spec := "fnExactWeightOf", plainKeys := false, apart := false, narrowed := true }
def FnExactWeightOfUptoSaid : Prop := fnExactWeightOfUptoRow.holds Try.pinned (OpenSpec.upto fnExactWeightOfSpec)

/-- 'laws.FnExactBarrowLoads', WHERE WHAT IT READS IS OF BULK AT MOST 1048576: true; the input reads as it did. -/
def fnExactBarrowLoadsUptoRow : OpenClaim := { program := "ytkggimalkjjnoaa", sum := "d9610a96eef4a49d97c20ee5f40e5d8c5378f135be1154b4afcbc526f5aa2e30", func := "loop.example/g01383/laws.FnExactBarrowLoads", spec := "fnExactBarrowLoads", plainKeys := false, apart := false, narrowed := true }
def FnExactBarrowLoadsUptoSaid : Prop := fnExactBarrowLoadsUptoRow.holds Try.pinned (OpenSpec.upto fnExactBarrowLoadsSpec)

/-- 'laws.FnExactFewestLoads', WHERE WHAT IT READS IS OF BULK AT MOST 1048576: true; the input reads as it did. -/
def fnExactFewestLoadsUptoRow : OpenClaim := { program := "ytkggimalkjjnoaa", sum := "d9610a96eef4a49d97c20ee5f40e5d8c5378f135be1154b4afcbc526f5aa2e30", func := "loop.example/g01383/laws.FnExactFewestLoads", spec := "fnExactFewestLoads", recurses := true, plainKeys := false, apart := false, narrowed := true }
def FnExactFewestLoadsUptoSaid : Prop := fnExactFewestLoadsUptoRow.holds Try.pinned (OpenSpec.upto fnExactFewestLoadsSpec)

/-- 'laws.FnExactTwoBarrows', WHERE WHAT IT READS IS OF BULK AT MOST 1048576: true; the input reads as it did. -/
def fnExactTwoBarrowsUptoRow : OpenClaim := { program := "ytkggimalkjjnoaa", sum := "d9610a96eef4a49d97c20ee5f40e5d8c5378f135be1154b4afcbc526f5aa2e30", func := "loop.example/g01383/laws.FnExactTwoBarrows", spec := "fnExactTwoBarrows", unfollowed := true, recurses := true, plainKeys := false, apart := false, narrowed := true }
def FnExactTwoBarrowsUptoSaid : Prop := fnExactTwoBarrowsUptoRow.holds Try.pinned (OpenSpec.upto fnExactTwoBarrowsSpec)

/-- 'laws.FnExactFewestLifted', WHERE WHAT IT READS IS OF BULK AT MOST 1048576: true; the input reads as it did. -/
def fnExactFewestLiftedUptoRow : OpenClaim := { program := "ytkggimalkjjnoaa", sum := "d9610a96eef4a49d97c20ee5f40e5d8c5378f135be1154b4afcbc526f5aa2e30", func := "loop.example/g01383/laws.FnExactFewestLifted", spec := "fnExactFewestLifted", unfollowed := true, recurses := true, plainKeys := false, apart := false, narrowed := true }
def FnExactFewestLiftedUptoSaid : Prop := fnExactFewestLiftedUptoRow.holds Try.pinned (OpenSpec.upto fnExactFewestLiftedSpec)

/-- 'laws.FnExactWayUnder', WHERE WHAT IT READS IS OF BULK AT MOST 1048576: true; the input reads as it did. -/
def fnExactWayUnderUptoRow : OpenClaim := { program := "ytkggimalkjjnoaa", sum := "d9610a96eef4a49d97c20ee5f40e5d8c5378f135be1154b4afcbc526f5aa2e30", func := "loop.example/g01383/laws.FnExactWayUnder", spec := "fnExactWayUnder", unfollowed := true, recurses := true, plainKeys := false, apart := false, narrowed := true }
def FnExactWayUnderUptoSaid : Prop := fnExactWayUnderUptoRow.holds Try.pinned (OpenSpec.upto fnExactWayUnderSpec)

/-- 'laws.FnExactBesideSlab', WHERE WHAT IT READS IS OF BULK AT MOST 1048576: true; the input reads as it did. -/
def fnExactBesideSlabUptoRow : OpenClaim := { program := "ytkggimalkjjnoaa", sum := "d9610a96eef4a49d97c20ee5f40e5d8c5378f135be1154b4afcbc526f5aa2e30", func := "loop.example/g01383/laws.FnExactBesideSlab", spec := "fnExactBesideSlab", unfollowed := true, recurses := true, plainKeys := false, apart := false, narrowed := true }
def FnExactBesideSlabUptoSaid : Prop := fnExactBesideSlabUptoRow.holds Try.pinned (OpenSpec.upto fnExactBesideSlabSpec)

/-- 'laws.FnExactFillWith', WHERE WHAT IT READS IS OF BULK AT MOST 1048576: true; the input reads as it did. -/
def fnExactFillWithUptoRow : OpenClaim := { program := "ytkggimalkjjnoaa", sum := "d9610a96eef4a49d97c20ee5f40e5d8c5378f135be1154b4afcbc526f5aa2e30", func := "loop.example/g01383/laws.FnExactFillWith", spec := "fnExactFillWith", unfollowed := true, recurses := true, plainKeys := false, apart := false, narrowed := true }
def FnExactFillWithUptoSaid : Prop := fnExactFillWithUptoRow.holds Try.pinned (OpenSpec.upto fnExactFillWithSpec)

/-- 'laws.FnExactMirrorGround', WHERE WHAT IT READS IS OF BULK AT MOST 1048576: true; the input reads as it did. -/
def fnExactMirrorGroundUptoRow : OpenClaim := { program := "ytkggimalkjjnoaa", sum := "d9610a96eef4a49d97c20ee5f40e5d8c5378f135be1154b4afcbc526f5aa2e30", func := "loop.example/g01383/laws.FnExactMirrorGround", spec := "fnExactMirrorGround", unfollowed := true, recurses := true, plainKeys := false, apart := false, narrowed := true }
def FnExactMirrorGroundUptoSaid : Prop := fnExactMirrorGroundUptoRow.holds Try.pinned (OpenSpec.upto fnExactMirrorGroundSpec)

/-- 'laws.FnExactStandsAt', WHERE WHAT IT READS IS OF BULK AT MOST 1048576: true; the input reads as it did. -/
def fnExactStandsAtUptoRow : OpenClaim := { program := "ytkggimalkjjnoaa", sum := "d9610a96eef4a49d97c20ee5f40e5d8c5378f135be1154b4afcbc526f5aa2e30", func := "loop.example/g01383/laws.FnExactStandsAt", spec := "fnExactStandsAt", unfollowed := true, recurses := true, plainKeys := false, apart := false, narrowed := true }
def FnExactStandsAtUptoSaid : Prop := fnExactStandsAtUptoRow.holds Try.pinned (OpenSpec.upto fnExactStandsAtSpec)

/-- 'laws.FnExactPartAt', WHERE WHAT IT READS IS OF BULK AT MOST 1048576: true; the input reads as it did. -/
def fnExactPartAtUptoRow : OpenClaim := { program := "ytkggimalkjjnoaa", sum := "d9610a96eef4a49d97c20ee5f40e5d8c5378f135be1154b4afcbc526f5aa2e30", func := "loop.example/g01383/laws.FnExactPartAt", spec := "fnExactPartAt", unfollowed := true, recurses := true, plainKeys := false, apart := false, narrowed := true }
def FnExactPartAtUptoSaid : Prop := fnExactPartAtUptoRow.holds Try.pinned (OpenSpec.upto fnExactPartAtSpec)

/-- 'laws.FnExactFirstGap', WHERE WHAT IT READS IS OF BULK AT MOST 1048576: true; the input reads as it did. -/
def fnExactFirstGapUptoRow : OpenClaim := { program := "ytkggimalkjjnoaa", sum := "d9610a96eef4a49d97c20ee5f40e5d8c5378f135be1154b4afcbc526f5aa2e30", func := "loop.example/g01383/laws.FnExactFirstGap", spec := "fnExactFirstGap", unfollowed := true, recurses := true, plainKeys := false, apart := false, narrowed := true }
def FnExactFirstGapUptoSaid : Prop := fnExactFirstGapUptoRow.holds Try.pinned (OpenSpec.upto fnExactFirstGapSpec)

/-- 'laws.FnExactCoversPlane', WHERE WHAT IT READS IS OF BULK AT MOST 1048576: true; the input reads as it did. -/
def fnExactCoversPlaneUptoRow : OpenClaim := { program := "ytkggimalkjjnoaa", sum := "d9610a96eef4a49d97c20ee5f40e5d8c5378f135be1154b4afcbc526f5aa2e30", func := "loop.example/g01383/laws.FnExactCoversPlane", spec := "fnExactCoversPlane", unfollowed := true, recurses := true, plainKeys := false, apart := false, narrowed := true }
def FnExactCoversPlaneUptoSaid : Prop := fnExactCoversPlaneUptoRow.holds Try.pinned (OpenSpec.upto fnExactCoversPlaneSpec)

end Rows
end Go.Proofs.Ytkggimalkjjnoaa
