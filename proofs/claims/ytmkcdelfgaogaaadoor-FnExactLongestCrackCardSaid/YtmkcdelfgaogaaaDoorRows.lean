/-
  NARROWER THAN 'FOR EVERY INPUT', by the rows' own cells (each row's printed sentence says how): FnExactIsJoint: ifaces, laid · FnExactCountJoints: ifaces, laid · FnExactJointsAt: ifaces, laid · FnExactMeetOf: ifaces, laid · FnExactLongestCrack: ifaces, laid.
  DERIVED. THE GIVEN ROWS OF THIS SEAT. 5 by the template 'for every input the law returns true; each argument reads behind the call as it read before'; 0 by the template 'total and deterministic' (their statements: YtmkcdelfgaogaaaDoorTotals.lean).
  GIVEN WITH THE SEED: the statements are not yours to turn. If you find one false, say at which input.
  Laid BY PROGRAM, IN A SANDBOX (cutbox-rows.mjs): the forced cells as the released guide's own fill.sh prints them over the translation 02484b9588138e83… (all of the seat's roots in one cut). By AI agents, Wed Nov 11 2026. No macro, syntax, notation, axiom, sorry.
-/
import Derived.Test.YtmkcdelfgaogaaaDoorChecked
import GoSem.Claim
import GoSem.ClaimJoined
import GoSem.ClaimMapViews
import Derived.JoinedTies
import Derived.KernelRfl
namespace Go.Proofs.YtmkcdelfgaogaaaDoor
/- THE CELL 'sum', in the pinned program and in every row, IS THE sha256 OF THE DUMP (.gsa) THAT YtmkcdelfgaogaaaDoorProg.lean LOADS. Nothing in Lean hashes anything: it is a label: what it is worth is what the hold of that sum in a sandbox is worth. -/
noncomputable def Tryd.pinned : Pinned := { name := "ytmkcdelfgaogaaadoor", sum := "02484b9588138e8328d392d5666483bbaffab5b094b93a47282bf99a51d0e5a5", checked := Tryd.checked }
namespace Rows
def none {H : Type} : Left H := { results := [], args := [] }

/- WHAT THE LISTED PACKAGE-LEVEL VARIABLES READ AS WHEN THE CALL BEGINS. Each datum BY PROGRAM (the guide's laid-datum.mjs) off the statement by which the dump's own 'gosem.cut.vars' lays the variable. In a bare row this is a premise. The card (YtmkcdelfgaogaaaDoorCards.lean) ties it to the program's text. -/
def laid_loop_example_g01383_impl_errNotValid {H : Type} : DataW H := .iface "*errors.errorString" (.ptr (.agg [.lit (.string [97, 32, 115, 113, 117, 97, 114, 101, 44, 32, 108, 101, 118, 101, 108, 115, 32, 111, 114, 32, 114, 97, 116, 101, 115, 32, 97, 114, 101, 32, 110, 111, 116, 32, 118, 97, 108, 105, 100])]))
def laid_loop_example_g01383_impl_errBeyond {H : Type} : DataW H := .iface "*errors.errorString" (.ptr (.agg [.lit (.string [97, 32, 110, 117, 109, 98, 101, 114, 32, 105, 115, 32, 111, 117, 116, 32, 111, 102, 32, 105, 116, 115, 32, 114, 97, 110, 103, 101])]))
def laid_loop_example_g01383_impl_errTooMany {H : Type} : DataW H := .iface "*errors.errorString" (.ptr (.agg [.lit (.string [116, 104, 101, 114, 101, 32, 97, 114, 101, 32, 116, 111, 111, 32, 109, 97, 110, 121, 32, 99, 114, 97, 99, 107, 115])]))
def laid_loop_example_g01383_impl_errNoJoint {H : Type} : DataW H := .iface "*errors.errorString" (.ptr (.agg [.lit (.string [116, 119, 111, 32, 112, 111, 105, 110, 116, 115, 32, 97, 114, 101, 32, 110, 111, 32, 101, 110, 100, 115, 32, 111, 102, 32, 97, 32, 106, 111, 105, 110, 116])]))

/-- 'laws.FnExactIsJoint': WHATEVER THE INPUT: true; the input reads as it did. -/
def fnExactIsJointSpec : ChangeSpec := { name := "fnExactIsJoint", vars := ["loop.example/g01383/impl.errNotValid", "loop.example/g01383/impl.errBeyond", "loop.example/g01383/impl.errTooMany"], fn := fun _ => fun
  | [d1, d2, d3, g1, g2, g3] => { results := [.lit (.bool true)], args := [d1, d2, d3], vars := [g1, g2, g3] }
  | _ => none }
def fnExactIsJointRow : OpenClaim := { program := "ytmkcdelfgaogaaadoor", sum := "02484b9588138e8328d392d5666483bbaffab5b094b93a47282bf99a51d0e5a5", func := "loop.example/g01383/laws.FnExactIsJoint", spec := "fnExactIsJoint", inPlace := ["internal/reflectlite.TypeOf"], unfollowed := true, recurses := true, named := ["loop.example/g01383/impl.errNotValid", "loop.example/g01383/impl.errBeyond", "loop.example/g01383/impl.errTooMany"], ifaces := true, plainKeys := false, apart := false, laid := [("loop.example/g01383/impl.errNotValid", laid_loop_example_g01383_impl_errNotValid), ("loop.example/g01383/impl.errBeyond", laid_loop_example_g01383_impl_errBeyond), ("loop.example/g01383/impl.errTooMany", laid_loop_example_g01383_impl_errTooMany)] }
def FnExactIsJointSaid : Prop := fnExactIsJointRow.holds Tryd.pinned (OpenSpec.ofChange fnExactIsJointSpec)

/-- ITS FALSE NEIGHBOUR: 'it returns false'. Refute it at one input. -/
def fnExactIsJointWrong : ChangeSpec := { name := "fnExactIsJoint", vars := ["loop.example/g01383/impl.errNotValid", "loop.example/g01383/impl.errBeyond", "loop.example/g01383/impl.errTooMany"], fn := fun _ => fun
  | [d1, d2, d3, g1, g2, g3] => { results := [.lit (.bool false)], args := [d1, d2, d3], vars := [g1, g2, g3] }
  | _ => none }
def FnExactIsJointWrongFalsely : Prop := fnExactIsJointRow.holds Tryd.pinned (OpenSpec.ofChange fnExactIsJointWrong)

/-- 'laws.FnExactCountJoints': WHATEVER THE INPUT: true; the input reads as it did. -/
def fnExactCountJointsSpec : ChangeSpec := { name := "fnExactCountJoints", vars := ["loop.example/g01383/impl.errNotValid", "loop.example/g01383/impl.errBeyond", "loop.example/g01383/impl.errTooMany"], fn := fun _ => fun
  | [d, g1, g2, g3] => { results := [.lit (.bool true)], args := [d], vars := [g1, g2, g3] }
  | _ => none }
def fnExactCountJointsRow : OpenClaim := { program := "ytmkcdelfgaogaaadoor", sum := "02484b9588138e8328d392d5666483bbaffab5b094b93a47282bf99a51d0e5a5", func := "loop.example/g01383/laws.FnExactCountJoints", spec := "fnExactCountJoints", inPlace := ["internal/reflectlite.TypeOf"], unfollowed := true, recurses := true, named := ["loop.example/g01383/impl.errNotValid", "loop.example/g01383/impl.errBeyond", "loop.example/g01383/impl.errTooMany"], ifaces := true, plainKeys := false, apart := false, laid := [("loop.example/g01383/impl.errNotValid", laid_loop_example_g01383_impl_errNotValid), ("loop.example/g01383/impl.errBeyond", laid_loop_example_g01383_impl_errBeyond), ("loop.example/g01383/impl.errTooMany", laid_loop_example_g01383_impl_errTooMany)] }
def FnExactCountJointsSaid : Prop := fnExactCountJointsRow.holds Tryd.pinned (OpenSpec.ofChange fnExactCountJointsSpec)

/-- ITS FALSE NEIGHBOUR: 'it returns false'. Refute it at one input. -/
def fnExactCountJointsWrong : ChangeSpec := { name := "fnExactCountJoints", vars := ["loop.example/g01383/impl.errNotValid", "loop.example/g01383/impl.errBeyond", "loop.example/g01383/impl.errTooMany"], fn := fun _ => fun
  | [d, g1, g2, g3] => { results := [.lit (.bool false)], args := [d], vars := [g1, g2, g3] }
  | _ => none }
def FnExactCountJointsWrongFalsely : Prop := fnExactCountJointsRow.holds Tryd.pinned (OpenSpec.ofChange fnExactCountJointsWrong)

/-- 'laws.FnExactJointsAt': WHATEVER THE INPUT: true; the input reads as it did. -/
def fnExactJointsAtSpec : ChangeSpec := { name := "fnExactJointsAt", vars := ["loop.example/g01383/impl.errNotValid", "loop.example/g01383/impl.errBeyond", "loop.example/g01383/impl.errTooMany"], fn := fun _ => fun
  | [d1, d2, g1, g2, g3] => { results := [.lit (.bool true)], args := [d1, d2], vars := [g1, g2, g3] }
  | _ => none }
def fnExactJointsAtRow : OpenClaim := { program := "ytmkcdelfgaogaaadoor", sum := "02484b9588138e8328d392d5666483bbaffab5b094b93a47282bf99a51d0e5a5", func := "loop.example/g01383/laws.FnExactJointsAt", spec := "fnExactJointsAt", inPlace := ["internal/reflectlite.TypeOf"], unfollowed := true, recurses := true, named := ["loop.example/g01383/impl.errNotValid", "loop.example/g01383/impl.errBeyond", "loop.example/g01383/impl.errTooMany"], ifaces := true, plainKeys := false, apart := false, laid := [("loop.example/g01383/impl.errNotValid", laid_loop_example_g01383_impl_errNotValid), ("loop.example/g01383/impl.errBeyond", laid_loop_example_g01383_impl_errBeyond), ("loop.example/g01383/impl.errTooMany", laid_loop_example_g01383_impl_errTooMany)] }
def FnExactJointsAtSaid : Prop := fnExactJointsAtRow.holds Tryd.pinned (OpenSpec.ofChange fnExactJointsAtSpec)

/-- ITS FALSE NEIGHBOUR: 'it returns false'. Refute it at one input. -/
def fnExactJointsAtWrong : ChangeSpec := { name := "fnExactJointsAt", vars := ["loop.example/g01383/impl.errNotValid", "loop.example/g01383/impl.errBeyond", "loop.example/g01383/impl.errTooMany"], fn := fun _ => fun
  | [d1, d2, g1, g2, g3] => { results := [.lit (.bool false)], args := [d1, d2], vars := [g1, g2, g3] }
  | _ => none }
def FnExactJointsAtWrongFalsely : Prop := fnExactJointsAtRow.holds Tryd.pinned (OpenSpec.ofChange fnExactJointsAtWrong)

/-- 'laws.FnExactMeetOf': WHATEVER THE INPUT: true; the input reads as it did. -/
def fnExactMeetOfSpec : ChangeSpec := { name := "fnExactMeetOf", vars := ["loop.example/g01383/impl.errNoJoint", "loop.example/g01383/impl.errNotValid", "loop.example/g01383/impl.errBeyond", "loop.example/g01383/impl.errTooMany"], fn := fun _ => fun
  | [d1, d2, d3, g1, g2, g3, g4] => { results := [.lit (.bool true)], args := [d1, d2, d3], vars := [g1, g2, g3, g4] }
  | _ => none }
def fnExactMeetOfRow : OpenClaim := { program := "ytmkcdelfgaogaaadoor", sum := "02484b9588138e8328d392d5666483bbaffab5b094b93a47282bf99a51d0e5a5", func := "loop.example/g01383/laws.FnExactMeetOf", spec := "fnExactMeetOf", inPlace := ["internal/reflectlite.TypeOf"], unfollowed := true, recurses := true, named := ["loop.example/g01383/impl.errNoJoint", "loop.example/g01383/impl.errNotValid", "loop.example/g01383/impl.errBeyond", "loop.example/g01383/impl.errTooMany"], ifaces := true, plainKeys := false, apart := false, laid := [("loop.example/g01383/impl.errNotValid", laid_loop_example_g01383_impl_errNotValid), ("loop.example/g01383/impl.errBeyond", laid_loop_example_g01383_impl_errBeyond), ("loop.example/g01383/impl.errTooMany", laid_loop_example_g01383_impl_errTooMany), ("loop.example/g01383/impl.errNoJoint", laid_loop_example_g01383_impl_errNoJoint)] }
def FnExactMeetOfSaid : Prop := fnExactMeetOfRow.holds Tryd.pinned (OpenSpec.ofChange fnExactMeetOfSpec)

/-- ITS FALSE NEIGHBOUR: 'it returns false'. Refute it at one input. -/
def fnExactMeetOfWrong : ChangeSpec := { name := "fnExactMeetOf", vars := ["loop.example/g01383/impl.errNoJoint", "loop.example/g01383/impl.errNotValid", "loop.example/g01383/impl.errBeyond", "loop.example/g01383/impl.errTooMany"], fn := fun _ => fun
  | [d1, d2, d3, g1, g2, g3, g4] => { results := [.lit (.bool false)], args := [d1, d2, d3], vars := [g1, g2, g3, g4] }
  | _ => none }
def FnExactMeetOfWrongFalsely : Prop := fnExactMeetOfRow.holds Tryd.pinned (OpenSpec.ofChange fnExactMeetOfWrong)

/-- 'laws.FnExactLongestCrack': WHATEVER THE INPUT: true; the input reads as it did. -/
def fnExactLongestCrackSpec : ChangeSpec := { name := "fnExactLongestCrack", vars := ["loop.example/g01383/impl.errNotValid", "loop.example/g01383/impl.errBeyond", "loop.example/g01383/impl.errTooMany"], fn := fun _ => fun
  | [d1, d2, g1, g2, g3] => { results := [.lit (.bool true)], args := [d1, d2], vars := [g1, g2, g3] }
  | _ => none }
def fnExactLongestCrackRow : OpenClaim := { program := "ytmkcdelfgaogaaadoor", sum := "02484b9588138e8328d392d5666483bbaffab5b094b93a47282bf99a51d0e5a5", func := "loop.example/g01383/laws.FnExactLongestCrack", spec := "fnExactLongestCrack", inPlace := ["internal/reflectlite.TypeOf"], unfollowed := true, recurses := true, named := ["loop.example/g01383/impl.errNotValid", "loop.example/g01383/impl.errBeyond", "loop.example/g01383/impl.errTooMany"], ifaces := true, plainKeys := false, apart := false, laid := [("loop.example/g01383/impl.errNotValid", laid_loop_example_g01383_impl_errNotValid), ("loop.example/g01383/impl.errBeyond", laid_loop_example_g01383_impl_errBeyond), ("loop.example/g01383/impl.errTooMany", laid_loop_example_g01383_impl_errTooMany)] }
def FnExactLongestCrackSaid : Prop := fnExactLongestCrackRow.holds Tryd.pinned (OpenSpec.ofChange fnExactLongestCrackSpec)

/-- ITS FALSE NEIGHBOUR: 'it returns false'. Refute it at one input. -/
def fnExactLongestCrackWrong : ChangeSpec := { name := "fnExactLongestCrack", vars := ["loop.example/g01383/impl.errNotValid", "loop.example/g01383/impl.errBeyond", "loop.example/g01383/impl.errTooMany"], fn := fun _ => fun
  | [d1, d2, g1, g2, g3] => { results := [.lit (.bool false)], args := [d1, d2], vars := [g1, g2, g3] }
  | _ => none }
def FnExactLongestCrackWrongFalsely : Prop := fnExactLongestCrackRow.holds Tryd.pinned (OpenSpec.ofChange fnExactLongestCrackWrong)

/- THE SECOND FORM. 'bulk': how many values and letters a reading holds, each counted each time it is reached (what is shared counts as often as it is met; a slice's spare places count too). A statement '..UptoSaid' is the law's where the arguments, and the package variables that the reading takes, are together of bulk at most 1048576: NARROWER than '..Said'. Prove '..Said' where nothing that the law and all that it calls make is longer than what came in: it says more and counts as full. Else prove '..UptoSaid'. A law counts once. -/
mutual
def uptoBulk {H : Type} : DataW H → Nat
  | .lit (.string bytes) => bytes.length + 1
  | .lit _ => 1
  | .nil => 1
  | .ptr d => uptoBulk d + 1
  | .slice elems spare => uptoBulkAll elems + uptoBulkAll spare + 1
  | .agg parts => uptoBulkAll parts + 1
  | .iface _ d => uptoBulk d + 1
  | .map entries => uptoBulkEntries entries + 1
  | .held _ => 1
def uptoBulkAll {H : Type} : List (DataW H) → Nat
  | [] => 0
  | d :: r => uptoBulk d + uptoBulkAll r
def uptoBulkEntries {H : Type} : List (Lit × DataW H) → Nat
  | [] => 0
  | x :: r => uptoBulkEntry x + uptoBulkEntries r
def uptoBulkEntry {H : Type} : Lit × DataW H → Nat
  | (.string bytes, d) => bytes.length + uptoBulk d + 1
  | (_, d) => uptoBulk d + 1
 end
def uptoSmall : (H : Type) → List (DataW H) → Bool := fun _ ds => decide (uptoBulkAll ds ≤ 1048576)
def OpenSpec.upto (s : _root_.Go.ChangeSpec) : _root_.Go.OpenSpec := { _root_.Go.OpenSpec.ofChange s with cond := some uptoSmall }

/-- 'laws.FnExactIsJoint', WHERE WHAT IT READS IS OF BULK AT MOST 1048576: true; the input reads as it did. -/
def fnExactIsJointUptoRow : OpenClaim := { program := "ytmkcdelfgaogaaadoor", sum := "02484b9588138e8328d392d5666483bbaffab5b094b93a47282bf99a51d0e5a5", func := "loop.example/g01383/laws.FnExactIsJoint", spec := "fnExactIsJoint", inPlace := ["internal/reflectlite.TypeOf"], unfollowed := true, recurses := true, named := ["loop.example/g01383/impl.errNotValid", "loop.example/g01383/impl.errBeyond", "loop.example/g01383/impl.errTooMany"], ifaces := true, plainKeys := false, apart := false, laid := [("loop.example/g01383/impl.errNotValid", laid_loop_example_g01383_impl_errNotValid), ("loop.example/g01383/impl.errBeyond", laid_loop_example_g01383_impl_errBeyond), ("loop.example/g01383/impl.errTooMany", laid_loop_example_g01383_impl_errTooMany)], narrowed := true }
def FnExactIsJointUptoSaid : Prop := fnExactIsJointUptoRow.holds Tryd.pinned (OpenSpec.upto fnExactIsJointSpec)

/-- 'laws.FnExactCountJoints', WHERE WHAT IT READS IS OF BULK AT MOST 1048576: true; the input reads as it did. -/
def fnExactCountJointsUptoRow : OpenClaim := { program := "ytmkcdelfgaogaaadoor", sum := "02484b9588138e8328d392d5666483bbaffab5b094b93a47282bf99a51d0e5a5", func := "loop.example/g01383/laws.FnExactCountJoints", spec := "fnExactCountJoints", inPlace := ["internal/reflectlite.TypeOf"], unfollowed := true, recurses := true, named := ["loop.example/g01383/impl.errNotValid", "loop.example/g01383/impl.errBeyond", "loop.example/g01383/impl.errTooMany"], ifaces := true, plainKeys := false, apart := false, laid := [("loop.example/g01383/impl.errNotValid", laid_loop_example_g01383_impl_errNotValid), ("loop.example/g01383/impl.errBeyond", laid_loop_example_g01383_impl_errBeyond), ("loop.example/g01383/impl.errTooMany", laid_loop_example_g01383_impl_errTooMany)], narrowed := true }
def FnExactCountJointsUptoSaid : Prop := fnExactCountJointsUptoRow.holds Tryd.pinned (OpenSpec.upto fnExactCountJointsSpec)

/-- 'laws.FnExactJointsAt', WHERE WHAT IT READS IS OF BULK AT MOST 1048576: true; the input reads as it did. -/
def fnExactJointsAtUptoRow : OpenClaim := { program := "ytmkcdelfgaogaaadoor", sum := "02484b9588138e8328d392d5666483bbaffab5b094b93a47282bf99a51d0e5a5", func := "loop.example/g01383/laws.FnExactJointsAt", spec := "fnExactJointsAt", inPlace := ["internal/reflectlite.TypeOf"], unfollowed := true, recurses := true, named := ["loop.example/g01383/impl.errNotValid", "loop.example/g01383/impl.errBeyond", "loop.example/g01383/impl.errTooMany"], ifaces := true, plainKeys := false, apart := false, laid := [("loop.example/g01383/impl.errNotValid", laid_loop_example_g01383_impl_errNotValid), ("loop.example/g01383/impl.errBeyond", laid_loop_example_g01383_impl_errBeyond), ("loop.example/g01383/impl.errTooMany", laid_loop_example_g01383_impl_errTooMany)], narrowed := true }
def FnExactJointsAtUptoSaid : Prop := fnExactJointsAtUptoRow.holds Tryd.pinned (OpenSpec.upto fnExactJointsAtSpec)

/-- 'laws.FnExactMeetOf', WHERE WHAT IT READS IS OF BULK AT MOST 1048576: true; the input reads as it did. -/
def fnExactMeetOfUptoRow : OpenClaim := { program := "ytmkcdelfgaogaaadoor", sum := "02484b9588138e8328d392d5666483bbaffab5b094b93a47282bf99a51d0e5a5", func := "loop.example/g01383/laws.FnExactMeetOf", spec := "fnExactMeetOf", inPlace := ["internal/reflectlite.TypeOf"], unfollowed := true, recurses := true, named := ["loop.example/g01383/impl.errNoJoint", "loop.example/g01383/impl.errNotValid", "loop.example/g01383/impl.errBeyond", "loop.example/g01383/impl.errTooMany"], ifaces := true, plainKeys := false, apart := false, laid := [("loop.example/g01383/impl.errNotValid", laid_loop_example_g01383_impl_errNotValid), ("loop.example/g01383/impl.errBeyond", laid_loop_example_g01383_impl_errBeyond), ("loop.example/g01383/impl.errTooMany", laid_loop_example_g01383_impl_errTooMany), ("loop.example/g01383/impl.errNoJoint", laid_loop_example_g01383_impl_errNoJoint)], narrowed := true }
def FnExactMeetOfUptoSaid : Prop := fnExactMeetOfUptoRow.holds Tryd.pinned (OpenSpec.upto fnExactMeetOfSpec)

/-- 'laws.FnExactLongestCrack', WHERE WHAT IT READS IS OF BULK AT MOST 1048576: true; the input reads as it did. -/
def fnExactLongestCrackUptoRow : OpenClaim := { program := "ytmkcdelfgaogaaadoor", sum := "02484b9588138e8328d392d5666483bbaffab5b094b93a47282bf99a51d0e5a5", func := "loop.example/g01383/laws.FnExactLongestCrack", spec := "fnExactLongestCrack", inPlace := ["internal/reflectlite.TypeOf"], unfollowed := true, recurses := true, named := ["loop.example/g01383/impl.errNotValid", "loop.example/g01383/impl.errBeyond", "loop.example/g01383/impl.errTooMany"], ifaces := true, plainKeys := false, apart := false, laid := [("loop.example/g01383/impl.errNotValid", laid_loop_example_g01383_impl_errNotValid), ("loop.example/g01383/impl.errBeyond", laid_loop_example_g01383_impl_errBeyond), ("loop.example/g01383/impl.errTooMany", laid_loop_example_g01383_impl_errTooMany)], narrowed := true }
def FnExactLongestCrackUptoSaid : Prop := fnExactLongestCrackUptoRow.holds Tryd.pinned (OpenSpec.upto fnExactLongestCrackSpec)

end Rows
end Go.Proofs.YtmkcdelfgaogaaaDoor
