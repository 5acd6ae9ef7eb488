/-
  DERIVED. GIVEN WITH THE SEED: THE CARDS: each row of YtneijlogidhgiaaDoorRows.lean that lists a variable, with what it lists TIED to the program's text (the seventh form; the later family's looks); each row that meets fmt, with fmt's text TOLD by the authors' own Lean function (tested against real Go, not proved from fmt's source: count such statements apart). THE CARD IS WHAT COUNTS. Prove the row's statement (the work); the ties are given (YtneijlogidhgiaaDoorTie.lean); close each card by the builder's one call (the guide's Derived/Test/ToyasCard.lean, 'card_holds'). Laid BY PROGRAM, IN A SANDBOX (cutbox-door.mjs). By AI agents, Wed Nov 11 2026. No macro, syntax, notation, axiom, sorry.
-/
import Derived.Test.YtneijlogidhgiaaDoorRows
import GoSem.ClaimSeven
namespace Go.Proofs.YtneijlogidhgiaaDoor
namespace Rows

/-- THE TIED CARD OF 'laws.FnExactSettsText'. -/
def fnExactSettsTextCard : Claim7 := { stood := { row := fnExactSettsTextRow, standIns := [], harness := (true, "677e6acc969b4546db00ee3064a95c1a578e7fe7a12d51f473c8ce6df3d4a9a9"), looks := false }, kinds := [], alts := [], laidByText := true, laidKinds := [.data, .data, .data], laidTests := true, laidLooks := .later }
def FnExactSettsTextCardSaid : Prop := Claim7.holds Tryd.pinned (.plain (OpenSpec.ofChange fnExactSettsTextSpec)) fnExactSettsTextCard

/-- THE TIED CARD OF 'laws.FnExactOrderText'. -/
def fnExactOrderTextCard : Claim7 := { stood := { row := fnExactOrderTextRow, standIns := [], harness := (true, "677e6acc969b4546db00ee3064a95c1a578e7fe7a12d51f473c8ce6df3d4a9a9"), looks := false }, kinds := [], alts := [], laidByText := true, laidKinds := [.data, .data, .data], laidTests := true, laidLooks := .later }
def FnExactOrderTextCardSaid : Prop := Claim7.holds Tryd.pinned (.plain (OpenSpec.ofChange fnExactOrderTextSpec)) fnExactOrderTextCard

/-- THE TIED CARD OF 'laws.FnExactLevelsText'. -/
def fnExactLevelsTextCard : Claim7 := { stood := { row := fnExactLevelsTextRow, standIns := [], harness := (true, "677e6acc969b4546db00ee3064a95c1a578e7fe7a12d51f473c8ce6df3d4a9a9"), looks := false }, kinds := [], alts := [], laidByText := true, laidKinds := [.data, .data, .data], laidTests := true, laidLooks := .later }
def FnExactLevelsTextCardSaid : Prop := Claim7.holds Tryd.pinned (.plain (OpenSpec.ofChange fnExactLevelsTextSpec)) fnExactLevelsTextCard

/-- THE SECOND FORM's CARD OF 'laws.FnExactSettsText'. -/
def fnExactSettsTextUptoCard : Claim7 := { stood := { row := fnExactSettsTextUptoRow, standIns := [], harness := (true, "677e6acc969b4546db00ee3064a95c1a578e7fe7a12d51f473c8ce6df3d4a9a9"), looks := false }, kinds := [], alts := [], laidByText := true, laidKinds := [.data, .data, .data], laidTests := true, laidLooks := .later }
def FnExactSettsTextUptoCardSaid : Prop := Claim7.holds Tryd.pinned (.plain (OpenSpec.upto fnExactSettsTextSpec)) fnExactSettsTextUptoCard

/-- THE SECOND FORM's CARD OF 'laws.FnExactOrderText'. -/
def fnExactOrderTextUptoCard : Claim7 := { stood := { row := fnExactOrderTextUptoRow, standIns := [], harness := (true, "677e6acc969b4546db00ee3064a95c1a578e7fe7a12d51f473c8ce6df3d4a9a9"), looks := false }, kinds := [], alts := [], laidByText := true, laidKinds := [.data, .data, .data], laidTests := true, laidLooks := .later }
def FnExactOrderTextUptoCardSaid : Prop := Claim7.holds Tryd.pinned (.plain (OpenSpec.upto fnExactOrderTextSpec)) fnExactOrderTextUptoCard

/-- THE SECOND FORM's CARD OF 'laws.FnExactLevelsText'. -/
def fnExactLevelsTextUptoCard : Claim7 := { stood := { row := fnExactLevelsTextUptoRow, standIns := [], harness := (true, "677e6acc969b4546db00ee3064a95c1a578e7fe7a12d51f473c8ce6df3d4a9a9"), looks := false }, kinds := [], alts := [], laidByText := true, laidKinds := [.data, .data, .data], laidTests := true, laidLooks := .later }
def FnExactLevelsTextUptoCardSaid : Prop := Claim7.holds Tryd.pinned (.plain (OpenSpec.upto fnExactLevelsTextSpec)) fnExactLevelsTextUptoCard
end Rows
end Go.Proofs.YtneijlogidhgiaaDoor
