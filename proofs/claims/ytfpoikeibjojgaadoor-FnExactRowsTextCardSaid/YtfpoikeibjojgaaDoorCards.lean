/-
  DERIVED. GIVEN WITH THE SEED: THE CARDS: each row of YtfpoikeibjojgaaDoorRows.lean that lists a variable, with what it lists TIED to the program's text (the seventh form; the later family's looks); each row that meets fmt, with fmt's text TOLD by the authors' own Lean function (tested against real Go, not proved from fmt's source: count such statements apart). THE CARD IS WHAT COUNTS. Prove the row's statement (the work); the ties are given (YtfpoikeibjojgaaDoorTie.lean); close each card by the builder's one call (the guide's Derived/Test/ToyasCard.lean, 'card_holds'). Laid BY PROGRAM, IN A SANDBOX (cutbox-door.mjs). By AI agents, Wed Nov 11 2026. No macro, syntax, notation, axiom, sorry.
-/
import Derived.Test.YtfpoikeibjojgaaDoorRows
import GoSem.ClaimSeven
namespace Go.Proofs.YtfpoikeibjojgaaDoor
namespace Rows

/-- THE TIED CARD OF 'laws.FnExactMayLay'. -/
def fnExactMayLayCard : Claim7 := { stood := { row := fnExactMayLayRow, standIns := [], harness := (true, "69c04b9971016cd48c1a6e5975fd6ed50210a65ec442a5e30d5047c29f4a3681"), looks := true }, kinds := [], alts := [], laidByText := true, laidKinds := [.handle], laidTests := true, laidLooks := .later }
def FnExactMayLayCardSaid : Prop := Claim7.holds Tryd.pinned (.plain (OpenSpec.ofChange fnExactMayLaySpec)) fnExactMayLayCard

/-- THE TIED CARD OF 'laws.FnExactCheckPlan'. -/
def fnExactCheckPlanCard : Claim7 := { stood := { row := fnExactCheckPlanRow, standIns := [], harness := (true, "69c04b9971016cd48c1a6e5975fd6ed50210a65ec442a5e30d5047c29f4a3681"), looks := true }, kinds := [], alts := [], laidByText := true, laidKinds := [.handle], laidTests := true, laidLooks := .later }
def FnExactCheckPlanCardSaid : Prop := Claim7.holds Tryd.pinned (.plain (OpenSpec.ofChange fnExactCheckPlanSpec)) fnExactCheckPlanCard

/-- THE TIED CARD OF 'laws.FnExactPlanDays'. -/
def fnExactPlanDaysCard : Claim7 := { stood := { row := fnExactPlanDaysRow, standIns := [], harness := (true, "69c04b9971016cd48c1a6e5975fd6ed50210a65ec442a5e30d5047c29f4a3681"), looks := true }, kinds := [], alts := [], laidByText := true, laidKinds := [.handle], laidTests := true, laidLooks := .later }
def FnExactPlanDaysCardSaid : Prop := Claim7.holds Tryd.pinned (.plain (OpenSpec.ofChange fnExactPlanDaysSpec)) fnExactPlanDaysCard

/-- THE TIED CARD OF 'laws.FnExactPlanCost'. -/
def fnExactPlanCostCard : Claim7 := { stood := { row := fnExactPlanCostRow, standIns := [], harness := (true, "69c04b9971016cd48c1a6e5975fd6ed50210a65ec442a5e30d5047c29f4a3681"), looks := true }, kinds := [], alts := [], laidByText := true, laidKinds := [.handle], laidTests := true, laidLooks := .later }
def FnExactPlanCostCardSaid : Prop := Claim7.holds Tryd.pinned (.plain (OpenSpec.ofChange fnExactPlanCostSpec)) fnExactPlanCostCard

/-- THE TIED CARD OF 'laws.FnExactFastestPlan'. -/
def fnExactFastestPlanCard : Claim7 := { stood := { row := fnExactFastestPlanRow, standIns := [], harness := (true, "69c04b9971016cd48c1a6e5975fd6ed50210a65ec442a5e30d5047c29f4a3681"), looks := true }, kinds := [], alts := [], laidByText := true, laidKinds := [.handle], laidTests := true, laidLooks := .later }
def FnExactFastestPlanCardSaid : Prop := Claim7.holds Tryd.pinned (.plain (OpenSpec.ofChange fnExactFastestPlanSpec)) fnExactFastestPlanCard

/-- THE TIED CARD OF 'laws.FnExactCheapestPlan'. -/
def fnExactCheapestPlanCard : Claim7 := { stood := { row := fnExactCheapestPlanRow, standIns := [], harness := (true, "69c04b9971016cd48c1a6e5975fd6ed50210a65ec442a5e30d5047c29f4a3681"), looks := true }, kinds := [], alts := [], laidByText := true, laidKinds := [.handle], laidTests := true, laidLooks := .later }
def FnExactCheapestPlanCardSaid : Prop := Claim7.holds Tryd.pinned (.plain (OpenSpec.ofChange fnExactCheapestPlanSpec)) fnExactCheapestPlanCard

/-- THE TIED CARD OF 'laws.FnExactMeetAt'. -/
def fnExactMeetAtCard : Claim7 := { stood := { row := fnExactMeetAtRow, standIns := [], harness := (true, "69c04b9971016cd48c1a6e5975fd6ed50210a65ec442a5e30d5047c29f4a3681"), looks := true }, kinds := [], alts := [], laidByText := true, laidKinds := [.handle], laidTests := true, laidLooks := .later }
def FnExactMeetAtCardSaid : Prop := Claim7.holds Tryd.pinned (.plain (OpenSpec.ofChange fnExactMeetAtSpec)) fnExactMeetAtCard

/-- THE TIED CARD OF 'laws.FnExactRowsText'. -/
def fnExactRowsTextCard : Claim7 := { stood := { row := fnExactRowsTextRow, standIns := [], harness := (true, "69c04b9971016cd48c1a6e5975fd6ed50210a65ec442a5e30d5047c29f4a3681"), looks := true }, kinds := [], alts := [], laidByText := true, laidKinds := [.data, .data, .data], laidTests := true, laidLooks := .later }
def FnExactRowsTextCardSaid : Prop := Claim7.holds Tryd.pinned (.plain (OpenSpec.ofChange fnExactRowsTextSpec)) fnExactRowsTextCard

/-- THE TIED CARD OF 'laws.FnExactReadRows'. -/
def fnExactReadRowsCard : Claim7 := { stood := { row := fnExactReadRowsRow, standIns := [], harness := (true, "69c04b9971016cd48c1a6e5975fd6ed50210a65ec442a5e30d5047c29f4a3681"), looks := true }, kinds := [], alts := [], laidByText := true, laidKinds := [.data, .data, .data, .sentinel, .sentinel, .listed, .data], laidTests := true, laidLooks := .later }
def FnExactReadRowsCardSaid : Prop := Claim7.holds Tryd.pinned (.plain (OpenSpec.ofChange fnExactReadRowsSpec)) fnExactReadRowsCard

/-- THE SECOND FORM's CARD OF 'laws.FnExactMayLay'. -/
def fnExactMayLayUptoCard : Claim7 := { stood := { row := fnExactMayLayUptoRow, standIns := [], harness := (true, "69c04b9971016cd48c1a6e5975fd6ed50210a65ec442a5e30d5047c29f4a3681"), looks := true }, kinds := [], alts := [], laidByText := true, laidKinds := [.handle], laidTests := true, laidLooks := .later }
def FnExactMayLayUptoCardSaid : Prop := Claim7.holds Tryd.pinned (.plain (OpenSpec.upto fnExactMayLaySpec)) fnExactMayLayUptoCard

/-- THE SECOND FORM's CARD OF 'laws.FnExactCheckPlan'. -/
def fnExactCheckPlanUptoCard : Claim7 := { stood := { row := fnExactCheckPlanUptoRow, standIns := [], harness := (true, "69c04b9971016cd48c1a6e5975fd6ed50210a65ec442a5e30d5047c29f4a3681"), looks := true }, kinds := [], alts := [], laidByText := true, laidKinds := [.handle], laidTests := true, laidLooks := .later }
def FnExactCheckPlanUptoCardSaid : Prop := Claim7.holds Tryd.pinned (.plain (OpenSpec.upto fnExactCheckPlanSpec)) fnExactCheckPlanUptoCard

/-- THE SECOND FORM's CARD OF 'laws.FnExactPlanDays'. -/
def fnExactPlanDaysUptoCard : Claim7 := { stood := { row := fnExactPlanDaysUptoRow, standIns := [], harness := (true, "69c04b9971016cd48c1a6e5975fd6ed50210a65ec442a5e30d5047c29f4a3681"), looks := true }, kinds := [], alts := [], laidByText := true, laidKinds := [.handle], laidTests := true, laidLooks := .later }
def FnExactPlanDaysUptoCardSaid : Prop := Claim7.holds Tryd.pinned (.plain (OpenSpec.upto fnExactPlanDaysSpec)) fnExactPlanDaysUptoCard

/-- THE SECOND FORM's CARD OF 'laws.FnExactPlanCost'. -/
def fnExactPlanCostUptoCard : Claim7 := { stood := { row := fnExactPlanCostUptoRow, standIns := [], harness := (true, "69c04b9971016cd48c1a6e5975fd6ed50210a65ec442a5e30d5047c29f4a3681"), looks := true }, kinds := [], alts := [], laidByText := true, laidKinds := [.handle], laidTests := true, laidLooks := .later }
def FnExactPlanCostUptoCardSaid : Prop := Claim7.holds Tryd.pinned (.plain (OpenSpec.upto fnExactPlanCostSpec)) fnExactPlanCostUptoCard

/-- THE SECOND FORM's CARD OF 'laws.FnExactFastestPlan'. -/
def fnExactFastestPlanUptoCard : Claim7 := { stood := { row := fnExactFastestPlanUptoRow, standIns := [], harness := (true, "69c04b9971016cd48c1a6e5975fd6ed50210a65ec442a5e30d5047c29f4a3681"), looks := true }, kinds := [], alts := [], laidByText := true, laidKinds := [.handle], laidTests := true, laidLooks := .later }
def FnExactFastestPlanUptoCardSaid : Prop := Claim7.holds Tryd.pinned (.plain (OpenSpec.upto fnExactFastestPlanSpec)) fnExactFastestPlanUptoCard

/-- THE SECOND FORM's CARD OF 'laws.FnExactCheapestPlan'. -/
def fnExactCheapestPlanUptoCard : Claim7 := { stood := { row := fnExactCheapestPlanUptoRow, standIns := [], harness := (true, "69c04b9971016cd48c1a6e5975fd6ed50210a65ec442a5e30d5047c29f4a3681"), looks := true }, kinds := [], alts := [], laidByText := true, laidKinds := [.handle], laidTests := true, laidLooks := .later }
def FnExactCheapestPlanUptoCardSaid : Prop := Claim7.holds Tryd.pinned (.plain (OpenSpec.upto fnExactCheapestPlanSpec)) fnExactCheapestPlanUptoCard

/-- THE SECOND FORM's CARD OF 'laws.FnExactMeetAt'. -/
def fnExactMeetAtUptoCard : Claim7 := { stood := { row := fnExactMeetAtUptoRow, standIns := [], harness := (true, "69c04b9971016cd48c1a6e5975fd6ed50210a65ec442a5e30d5047c29f4a3681"), looks := true }, kinds := [], alts := [], laidByText := true, laidKinds := [.handle], laidTests := true, laidLooks := .later }
def FnExactMeetAtUptoCardSaid : Prop := Claim7.holds Tryd.pinned (.plain (OpenSpec.upto fnExactMeetAtSpec)) fnExactMeetAtUptoCard

/-- THE SECOND FORM's CARD OF 'laws.FnExactRowsText'. -/
def fnExactRowsTextUptoCard : Claim7 := { stood := { row := fnExactRowsTextUptoRow, standIns := [], harness := (true, "69c04b9971016cd48c1a6e5975fd6ed50210a65ec442a5e30d5047c29f4a3681"), looks := true }, kinds := [], alts := [], laidByText := true, laidKinds := [.data, .data, .data], laidTests := true, laidLooks := .later }
def FnExactRowsTextUptoCardSaid : Prop := Claim7.holds Tryd.pinned (.plain (OpenSpec.upto fnExactRowsTextSpec)) fnExactRowsTextUptoCard

/-- THE SECOND FORM's CARD OF 'laws.FnExactReadRows'. -/
def fnExactReadRowsUptoCard : Claim7 := { stood := { row := fnExactReadRowsUptoRow, standIns := [], harness := (true, "69c04b9971016cd48c1a6e5975fd6ed50210a65ec442a5e30d5047c29f4a3681"), looks := true }, kinds := [], alts := [], laidByText := true, laidKinds := [.data, .data, .data, .sentinel, .sentinel, .listed, .data], laidTests := true, laidLooks := .later }
def FnExactReadRowsUptoCardSaid : Prop := Claim7.holds Tryd.pinned (.plain (OpenSpec.upto fnExactReadRowsSpec)) fnExactReadRowsUptoCard
end Rows
end Go.Proofs.YtfpoikeibjojgaaDoor
