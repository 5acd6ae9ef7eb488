/-
  DERIVED. GIVEN WITH THE SEED: THE PROGRAM's TIES (one call each: nine closed facts by the kernel) AND EACH ROW's TIE, after the 31st guide's Derived/Test/Toyas{Tie, Card}.lean. No idea stands in it: it is a product of the set-up. Laid BY PROGRAM, IN A SANDBOX (cutbox-door.mjs). By AI agents, Wed Nov 11 2026. No macro, syntax, notation, axiom, sorry.
-/
import Derived.Test.YtmkcdelfgaogaaaDoorRows
import Derived.LaidByTextLater
import Derived.SevenTiedAt
import Derived.LaidSub
import Derived.LaidOnce
namespace Go.Proofs.YtmkcdelfgaogaaaDoor
open Go
set_option maxRecDepth 100000
theorem seatTie1 : Tryd.prog.laidByTextLater [("loop.example/g01383/impl.errNotValid", Rows.laid_loop_example_g01383_impl_errNotValid), ("loop.example/g01383/impl.errBeyond", Rows.laid_loop_example_g01383_impl_errBeyond), ("loop.example/g01383/impl.errTooMany", Rows.laid_loop_example_g01383_impl_errTooMany), ("loop.example/g01383/impl.errNoJoint", Rows.laid_loop_example_g01383_impl_errNoJoint)] [.sentinel, .sentinel, .sentinel, .sentinel] true :=
  Program.laidByTextLater_by_one 85 8 2 (by kernel_rfl) (by kernel_rfl) (by kernel_rfl) (by kernel_rfl) (by kernel_rfl) (by kernel_rfl) (fun _ _ => by kernel_rfl)
theorem noOwnUnsafe : Tryd.pinned.checked.prog.headLifts.contains "ownunsafe" = false := by kernel_rfl
theorem tie : Tryd.prog.laidByTextLater [("loop.example/g01383/impl.errNotValid", Rows.laid_loop_example_g01383_impl_errNotValid), ("loop.example/g01383/impl.errBeyond", Rows.laid_loop_example_g01383_impl_errBeyond), ("loop.example/g01383/impl.errTooMany", Rows.laid_loop_example_g01383_impl_errTooMany)] [.sentinel, .sentinel, .sentinel] true :=
  Program.laidByTextLater.sub seatTie1 ["loop.example/g01383/impl.errNotValid", "loop.example/g01383/impl.errBeyond", "loop.example/g01383/impl.errTooMany"] (by kernel_rfl) (by kernel_rfl)
theorem fnExactIsJoint_row_tie : Rows.fnExactIsJointRow.laidByTextAt .later Tryd.pinned [.sentinel, .sentinel, .sentinel] true :=
  OpenClaim.laidByTextAt_later rfl rfl tie noOwnUnsafe
theorem fnExactCountJoints_row_tie : Rows.fnExactCountJointsRow.laidByTextAt .later Tryd.pinned [.sentinel, .sentinel, .sentinel] true :=
  OpenClaim.laidByTextAt_later rfl rfl tie noOwnUnsafe
theorem fnExactJointsAt_row_tie : Rows.fnExactJointsAtRow.laidByTextAt .later Tryd.pinned [.sentinel, .sentinel, .sentinel] true :=
  OpenClaim.laidByTextAt_later rfl rfl tie noOwnUnsafe
theorem fnExactLongestCrack_row_tie : Rows.fnExactLongestCrackRow.laidByTextAt .later Tryd.pinned [.sentinel, .sentinel, .sentinel] true :=
  OpenClaim.laidByTextAt_later rfl rfl tie noOwnUnsafe
theorem tie2 : Tryd.prog.laidByTextLater [("loop.example/g01383/impl.errNotValid", Rows.laid_loop_example_g01383_impl_errNotValid), ("loop.example/g01383/impl.errBeyond", Rows.laid_loop_example_g01383_impl_errBeyond), ("loop.example/g01383/impl.errTooMany", Rows.laid_loop_example_g01383_impl_errTooMany), ("loop.example/g01383/impl.errNoJoint", Rows.laid_loop_example_g01383_impl_errNoJoint)] [.sentinel, .sentinel, .sentinel, .sentinel] true :=
  Program.laidByTextLater.sub seatTie1 ["loop.example/g01383/impl.errNotValid", "loop.example/g01383/impl.errBeyond", "loop.example/g01383/impl.errTooMany", "loop.example/g01383/impl.errNoJoint"] (by kernel_rfl) (by kernel_rfl)
theorem fnExactMeetOf_row_tie : Rows.fnExactMeetOfRow.laidByTextAt .later Tryd.pinned [.sentinel, .sentinel, .sentinel, .sentinel] true :=
  OpenClaim.laidByTextAt_later rfl rfl tie2 noOwnUnsafe
theorem fnExactIsJointUpto_row_tie : Rows.fnExactIsJointUptoRow.laidByTextAt .later Tryd.pinned [.sentinel, .sentinel, .sentinel] true :=
  OpenClaim.laidByTextAt_later rfl rfl tie noOwnUnsafe
theorem fnExactCountJointsUpto_row_tie : Rows.fnExactCountJointsUptoRow.laidByTextAt .later Tryd.pinned [.sentinel, .sentinel, .sentinel] true :=
  OpenClaim.laidByTextAt_later rfl rfl tie noOwnUnsafe
theorem fnExactJointsAtUpto_row_tie : Rows.fnExactJointsAtUptoRow.laidByTextAt .later Tryd.pinned [.sentinel, .sentinel, .sentinel] true :=
  OpenClaim.laidByTextAt_later rfl rfl tie noOwnUnsafe
theorem fnExactMeetOfUpto_row_tie : Rows.fnExactMeetOfUptoRow.laidByTextAt .later Tryd.pinned [.sentinel, .sentinel, .sentinel, .sentinel] true :=
  OpenClaim.laidByTextAt_later rfl rfl tie2 noOwnUnsafe
theorem fnExactLongestCrackUpto_row_tie : Rows.fnExactLongestCrackUptoRow.laidByTextAt .later Tryd.pinned [.sentinel, .sentinel, .sentinel] true :=
  OpenClaim.laidByTextAt_later rfl rfl tie noOwnUnsafe
end Go.Proofs.YtmkcdelfgaogaaaDoor
