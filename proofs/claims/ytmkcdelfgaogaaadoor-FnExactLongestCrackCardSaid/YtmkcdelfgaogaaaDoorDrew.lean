/-
  What is known of boxes and answers stands behind a drawn order. Conditions stand at each.
-/
import Derived.Test.YtmkcdelfgaogaaaDoorRows
import Derived.Test.YtmkcdelfgaogaaaDoorRet
import Derived.Test.YtmkcdelfgaogaaaDoorRes
namespace Go.Proofs.YtmkcdelfgaogaaaDoor
open Go Go.ChangeShapes Go.WideShapes Go.ChangeAt Go.RowKit
theorem Bx.drew {w : World} {b : Nat} {cs : Array Value} {t : TypeId} (h : Bx w b cs t) : Bx w.drew b cs t := h
theorem SliceOf.drew {kd : IntKind} {sz : Nat} {w : World} {base : Nat} {v : Value} {n : Nat} {f : Nat → Int} {A : Option Addr} {g cap : Nat} (h : SliceOf kd sz w base v n f A g cap) : SliceOf kd sz w.drew base v n f A g cap := h
end Go.Proofs.YtmkcdelfgaogaaaDoor
