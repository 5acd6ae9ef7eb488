/-
  Both sides of CanPut answer the same. Conditions stand at each.
-/
import Derived.Test.YtkggimalkjjnoaaRows
import Derived.Test.YtkggimalkjjnoaaCan
import Derived.Test.YtkggimalkjjnoaaLink
namespace Go.Proofs.Ytkggimalkjjnoaa.canPut
open Go Go.ChangeShapes Go.WideShapes Go.ChangeAt Go.RowKit
set_option linter.unusedVariables false
set_option linter.unusedSimpArgs false
set_option maxRecDepth 100000
set_option maxHeartbeats 2000000

end Go.Proofs.Ytkggimalkjjnoaa.canPut
