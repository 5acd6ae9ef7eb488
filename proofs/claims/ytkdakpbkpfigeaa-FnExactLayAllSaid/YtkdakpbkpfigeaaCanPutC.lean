/-
  Both sides of CanPut answer the same. Conditions stand at each.
-/
import Derived.Test.YtkdakpbkpfigeaaRows
import Derived.Test.YtkdakpbkpfigeaaCan
import Derived.Test.YtkdakpbkpfigeaaLink
namespace Go.Proofs.Ytkdakpbkpfigeaa.canPut
open Go Go.ChangeShapes Go.WideShapes Go.ChangeAt Go.RowKit
set_option linter.unusedVariables false
set_option linter.unusedSimpArgs false
set_option maxRecDepth 100000
set_option maxHeartbeats 2000000

end Go.Proofs.Ytkdakpbkpfigeaa.canPut
