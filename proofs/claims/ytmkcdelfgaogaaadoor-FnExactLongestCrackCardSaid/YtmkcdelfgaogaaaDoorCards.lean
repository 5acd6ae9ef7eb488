/-
  DERIVED. GIVEN WITH THE SEED: THE CARDS: each row of YtmkcdelfgaogaaaDoorRows.lean that lists a variable, with what it lists TIED to the program's text (the seventh form; the later family's looks); each row that meets fmt, with fmt's text TOLD by the authors' own Lean function (tested against real Go, not proved from fmt's source: count such statements apart). THE CARD IS WHAT COUNTS. Prove the row's statement (the work); the ties are given (YtmkcdelfgaogaaaDoorTie.lean); close each card by the builder's one call (the guide's Derived/Test/ToyasCard.lean, 'card_holds'). Laid BY PROGRAM, IN A SANDBOX (cutbox-door.mjs). By AI agents, Wed Nov 11 2026. No macro, syntax, notation, axiom, sorry.
-/
import Derived.Test.YtmkcdelfgaogaaaDoorRows
import GoSem.ClaimSeven
namespace Go.Proofs.YtmkcdelfgaogaaaDoor
namespace Rows

/-- THE TIED CARD OF 'laws.FnExactIsJoint'. -/
def fnExactIsJointCard : Claim7 := { stood := { row := fnExactIsJointRow, standIns := [], harness := (true, "b671becf7093a3d73de991b08daa1a9af5f493c6b103a7e4b3cb3511fe2da5ae"), looks := true }, kinds := [], alts := [], laidByText := true, laidKinds := [.sentinel, .sentinel, .sentinel], laidTests := true, laidLooks := .later }
def FnExactIsJointCardSaid : Prop := Claim7.holds Tryd.pinned (.plain (OpenSpec.ofChange fnExactIsJointSpec)) fnExactIsJointCard

/-- THE TIED CARD OF 'laws.FnExactCountJoints'. -/
def fnExactCountJointsCard : Claim7 := { stood := { row := fnExactCountJointsRow, standIns := [], harness := (true, "b671becf7093a3d73de991b08daa1a9af5f493c6b103a7e4b3cb3511fe2da5ae"), looks := true }, kinds := [], alts := [], laidByText := true, laidKinds := [.sentinel, .sentinel, .sentinel], laidTests := true, laidLooks := .later }
def FnExactCountJointsCardSaid : Prop := Claim7.holds Tryd.pinned (.plain (OpenSpec.ofChange fnExactCountJointsSpec)) fnExactCountJointsCard

/-- THE TIED CARD OF 'laws.FnExactJointsAt'. -/
def fnExactJointsAtCard : Claim7 := { stood := { row := fnExactJointsAtRow, standIns := [], harness := (true, "b671becf7093a3d73de991b08daa1a9af5f493c6b103a7e4b3cb3511fe2da5ae"), looks := true }, kinds := [], alts := [], laidByText := true, laidKinds := [.sentinel, .sentinel, .sentinel], laidTests := true, laidLooks := .later }
def FnExactJointsAtCardSaid : Prop := Claim7.holds Tryd.pinned (.plain (OpenSpec.ofChange fnExactJointsAtSpec)) fnExactJointsAtCard

/-- THE TIED CARD OF 'laws.FnExactMeetOf'. -/
def fnExactMeetOfCard : Claim7 := { stood := { row := fnExactMeetOfRow, standIns := [], harness := (true, "b671becf7093a3d73de991b08daa1a9af5f493c6b103a7e4b3cb3511fe2da5ae"), looks := true }, kinds := [], alts := [], laidByText := true, laidKinds := [.sentinel, .sentinel, .sentinel, .sentinel], laidTests := true, laidLooks := .later }
def FnExactMeetOfCardSaid : Prop := Claim7.holds Tryd.pinned (.plain (OpenSpec.ofChange fnExactMeetOfSpec)) fnExactMeetOfCard

/-- THE TIED CARD OF 'laws.FnExactLongestCrack'. -/
def fnExactLongestCrackCard : Claim7 := { stood := { row := fnExactLongestCrackRow, standIns := [], harness := (true, "b671becf7093a3d73de991b08daa1a9af5f493c6b103a7e4b3cb3511fe2da5ae"), looks := true }, kinds := [], alts := [], laidByText := true, laidKinds := [.sentinel, .sentinel, .sentinel], laidTests := true, laidLooks := .later }
def FnExactLongestCrackCardSaid : Prop := Claim7.holds Tryd.pinned (.plain (OpenSpec.ofChange fnExactLongestCrackSpec)) fnExactLongestCrackCard

/-- THE SECOND FORM's CARD OF 'laws.FnExactIsJoint'. -/
def fnExactIsJointUptoCard : Claim7 := { stood := { row := fnExactIsJointUptoRow, standIns := [], harness := (true, "b671becf7093a3d73de991b08daa1a9af5f493c6b103a7e4b3cb3511fe2da5ae"), looks := true }, kinds := [], alts := [], laidByText := true, laidKinds := [.sentinel, .sentinel, .sentinel], laidTests := true, laidLooks := .later }
def FnExactIsJointUptoCardSaid : Prop := Claim7.holds Tryd.pinned (.plain (OpenSpec.upto fnExactIsJointSpec)) fnExactIsJointUptoCard

/-- THE SECOND FORM's CARD OF 'laws.FnExactCountJoints'. -/
def fnExactCountJointsUptoCard : Claim7 := { stood := { row := fnExactCountJointsUptoRow, standIns := [], harness := (true, "b671becf7093a3d73de991b08daa1a9af5f493c6b103a7e4b3cb3511fe2da5ae"), looks := true }, kinds := [], alts := [], laidByText := true, laidKinds := [.sentinel, .sentinel, .sentinel], laidTests := true, laidLooks := .later }
def FnExactCountJointsUptoCardSaid : Prop := Claim7.holds Tryd.pinned (.plain (OpenSpec.upto fnExactCountJointsSpec)) fnExactCountJointsUptoCard

/-- THE SECOND FORM's CARD OF 'laws.FnExactJointsAt'. -/
def fnExactJointsAtUptoCard : Claim7 := { stood := { row := fnExactJointsAtUptoRow, standIns := [], harness := (true, "b671becf7093a3d73de991b08daa1a9af5f493c6b103a7e4b3cb3511fe2da5ae"), looks := true }, kinds := [], alts := [], laidByText := true, laidKinds := [.sentinel, .sentinel, .sentinel], laidTests := true, laidLooks := .later }
def FnExactJointsAtUptoCardSaid : Prop := Claim7.holds Tryd.pinned (.plain (OpenSpec.upto fnExactJointsAtSpec)) fnExactJointsAtUptoCard

/-- THE SECOND FORM's CARD OF 'laws.FnExactMeetOf'. -/
def fnExactMeetOfUptoCard : Claim7 := { stood := { row := fnExactMeetOfUptoRow, standIns := [], harness := (true, "b671becf7093a3d73de991b08daa1a9af5f493c6b103a7e4b3cb3511fe2da5ae"), looks := true }, kinds := [], alts := [], laidByText := true, laidKinds := [.sentinel, .sentinel, .sentinel, .sentinel], laidTests := true, laidLooks := .later }
def FnExactMeetOfUptoCardSaid : Prop := Claim7.holds Tryd.pinned (.plain (OpenSpec.upto fnExactMeetOfSpec)) fnExactMeetOfUptoCard

/-- THE SECOND FORM's CARD OF 'laws.FnExactLongestCrack'. -/
def fnExactLongestCrackUptoCard : Claim7 := { stood := { row := fnExactLongestCrackUptoRow, standIns := [], harness := (true, "b671becf7093a3d73de991b08daa1a9af5f493c6b103a7e4b3cb3511fe2da5ae"), looks := true }, kinds := [], alts := [], laidByText := true, laidKinds := [.sentinel, .sentinel, .sentinel], laidTests := true, laidLooks := .later }
def FnExactLongestCrackUptoCardSaid : Prop := Claim7.holds Tryd.pinned (.plain (OpenSpec.upto fnExactLongestCrackSpec)) fnExactLongestCrackUptoCard
end Rows
end Go.Proofs.YtmkcdelfgaogaaaDoor
