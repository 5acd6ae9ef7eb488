/-
  No cell of these rows narrows 'for every input' (looked for: loops, veiled, ifaces, maps, wideKeys, modest, calm, conditions, laid).
  DERIVED. THE GIVEN ROWS OF THIS SEAT. 10 by the template 'for every input the law returns true; each argument reads behind the call as it read before'; 0 by the template 'total and deterministic' (their statements: YtgpnimbgckajlaaTotals.lean).
  GIVEN WITH THE SEED: the statements are not yours to turn. If you find one false, say at which input.
  Laid BY PROGRAM, IN A SANDBOX (cutbox-rows.mjs): the forced cells as the released guide's own fill.sh prints them over the translation 218341176534451b… (all of the seat's roots in one cut). By AI agents, Wed Nov 11 2026. No macro, syntax, notation, axiom, sorry.
-/
import Derived.Test.YtgpnimbgckajlaaChecked
import GoSem.Claim
import GoSem.ClaimJoined
import GoSem.ClaimMapViews
import Derived.JoinedTies
import Derived.KernelRfl
namespace Go.Proofs.Ytgpnimbgckajlaa
/- THE CELL 'sum', in the pinned program and in every row, IS THE sha256 OF THE DUMP (.gsa) THAT YtgpnimbgckajlaaProg.lean LOADS. Nothing in Lean hashes anything: it is a label: what it is worth is what the hold of that sum in a sandbox is worth. -/
noncomputable def Try.pinned : Pinned := { name := "ytgpnimbgckajlaa", sum := "218341176534451b8d15d7ed154aa19117722f7678f4f5526bd1171c68fd9f12", checked := Try.checked }
namespace Rows
def none {H : Type} : Left H := { results := [], args := [] }

/-- 'laws.FnExactValidGang': WHATEVER THE INPUT: true; the input reads as it did. -/
def fnExactValidGangSpec : ChangeSpec := { name := "fnExactValidGang", fn := fun _ => fun
  | [d] => { results := [.lit (.bool true)], args := [d] }
  | _ => none }
def fnExactValidGangRow : OpenClaim := { program := "ytgpnimbgckajlaa", sum := "218341176534451b8d15d7ed154aa19117722f7678f4f5526bd1171c68fd9f12", func := "loop.example/g01383/laws.FnExactValidGang", spec := "fnExactValidGang", apart := false }
def FnExactValidGangSaid : Prop := fnExactValidGangRow.holds Try.pinned (OpenSpec.ofChange fnExactValidGangSpec)

/-- ITS FALSE NEIGHBOUR: 'it returns false'. Refute it at one input. -/
def fnExactValidGangWrong : ChangeSpec := { name := "fnExactValidGang", fn := fun _ => fun
  | [d] => { results := [.lit (.bool false)], args := [d] }
  | _ => none }
def FnExactValidGangWrongFalsely : Prop := fnExactValidGangRow.holds Try.pinned (OpenSpec.ofChange fnExactValidGangWrong)

/-- 'laws.FnExactValidRows': WHATEVER THE INPUT: true; the input reads as it did. -/
def fnExactValidRowsSpec : ChangeSpec := { name := "fnExactValidRows", fn := fun _ => fun
  | [d] => { results := [.lit (.bool true)], args := [d] }
  | _ => none }
def fnExactValidRowsRow : OpenClaim := { program := "ytgpnimbgckajlaa", sum := "218341176534451b8d15d7ed154aa19117722f7678f4f5526bd1171c68fd9f12", func := "loop.example/g01383/laws.FnExactValidRows", spec := "fnExactValidRows", unfollowed := true, recurses := true, apart := false }
def FnExactValidRowsSaid : Prop := fnExactValidRowsRow.holds Try.pinned (OpenSpec.ofChange fnExactValidRowsSpec)

/-- ITS FALSE NEIGHBOUR: 'it returns false'. Refute it at one input. -/
def fnExactValidRowsWrong : ChangeSpec := { name := "fnExactValidRows", fn := fun _ => fun
  | [d] => { results := [.lit (.bool false)], args := [d] }
  | _ => none }
def FnExactValidRowsWrongFalsely : Prop := fnExactValidRowsRow.holds Try.pinned (OpenSpec.ofChange fnExactValidRowsWrong)

/-- 'laws.FnExactDaysFor': WHATEVER THE INPUT: true; the input reads as it did. -/
def fnExactDaysForSpec : ChangeSpec := { name := "fnExactDaysFor", fn := fun _ => fun
  | [d1, d2] => { results := [.lit (.bool true)], args := [d1, d2] }
  | _ => none }
def fnExactDaysForRow : OpenClaim := { program := "ytgpnimbgckajlaa", sum := "218341176534451b8d15d7ed154aa19117722f7678f4f5526bd1171c68fd9f12", func := "loop.example/g01383/laws.FnExactDaysFor", spec := "fnExactDaysFor", apart := false }
def FnExactDaysForSaid : Prop := fnExactDaysForRow.holds Try.pinned (OpenSpec.ofChange fnExactDaysForSpec)

/-- ITS FALSE NEIGHBOUR: 'it returns false'. Refute it at one input. -/
def fnExactDaysForWrong : ChangeSpec := { name := "fnExactDaysFor", fn := fun _ => fun
  | [d1, d2] => { results := [.lit (.bool false)], args := [d1, d2] }
  | _ => none }
def FnExactDaysForWrongFalsely : Prop := fnExactDaysForRow.holds Try.pinned (OpenSpec.ofChange fnExactDaysForWrong)

/-- 'laws.FnExactCalendarDays': WHATEVER THE INPUT: true; the input reads as it did. -/
def fnExactCalendarDaysSpec : ChangeSpec := { name := "fnExactCalendarDays", fn := fun _ => fun
  | [d1, d2] => { results := [.lit (.bool true)], args := [d1, d2] }
  | _ => none }
def fnExactCalendarDaysRow : OpenClaim := { program := "ytgpnimbgckajlaa", sum := "218341176534451b8d15d7ed154aa19117722f7678f4f5526bd1171c68fd9f12", func := "loop.example/g01383/laws.FnExactCalendarDays", spec := "fnExactCalendarDays", apart := false }
def FnExactCalendarDaysSaid : Prop := fnExactCalendarDaysRow.holds Try.pinned (OpenSpec.ofChange fnExactCalendarDaysSpec)

/-- ITS FALSE NEIGHBOUR: 'it returns false'. Refute it at one input. -/
def fnExactCalendarDaysWrong : ChangeSpec := { name := "fnExactCalendarDays", fn := fun _ => fun
  | [d1, d2] => { results := [.lit (.bool false)], args := [d1, d2] }
  | _ => none }
def FnExactCalendarDaysWrongFalsely : Prop := fnExactCalendarDaysRow.holds Try.pinned (OpenSpec.ofChange fnExactCalendarDaysWrong)

/-- 'laws.FnExactValidMix': WHATEVER THE INPUT: true; the input reads as it did. -/
def fnExactValidMixSpec : ChangeSpec := { name := "fnExactValidMix", fn := fun _ => fun
  | [d] => { results := [.lit (.bool true)], args := [d] }
  | _ => none }
def fnExactValidMixRow : OpenClaim := { program := "ytgpnimbgckajlaa", sum := "218341176534451b8d15d7ed154aa19117722f7678f4f5526bd1171c68fd9f12", func := "loop.example/g01383/laws.FnExactValidMix", spec := "fnExactValidMix", apart := false }
def FnExactValidMixSaid : Prop := fnExactValidMixRow.holds Try.pinned (OpenSpec.ofChange fnExactValidMixSpec)

/-- ITS FALSE NEIGHBOUR: 'it returns false'. Refute it at one input. -/
def fnExactValidMixWrong : ChangeSpec := { name := "fnExactValidMix", fn := fun _ => fun
  | [d] => { results := [.lit (.bool false)], args := [d] }
  | _ => none }
def FnExactValidMixWrongFalsely : Prop := fnExactValidMixRow.holds Try.pinned (OpenSpec.ofChange fnExactValidMixWrong)

/-- 'laws.FnExactMixFor': WHATEVER THE INPUT: true; the input reads as it did. -/
def fnExactMixForSpec : ChangeSpec := { name := "fnExactMixFor", fn := fun _ => fun
  | [d1, d2] => { results := [.lit (.bool true)], args := [d1, d2] }
  | _ => none }
def fnExactMixForRow : OpenClaim := { program := "ytgpnimbgckajlaa", sum := "218341176534451b8d15d7ed154aa19117722f7678f4f5526bd1171c68fd9f12", func := "loop.example/g01383/laws.FnExactMixFor", spec := "fnExactMixFor", apart := false }
def FnExactMixForSaid : Prop := fnExactMixForRow.holds Try.pinned (OpenSpec.ofChange fnExactMixForSpec)

/-- ITS FALSE NEIGHBOUR: 'it returns false'. Refute it at one input. -/
def fnExactMixForWrong : ChangeSpec := { name := "fnExactMixFor", fn := fun _ => fun
  | [d1, d2] => { results := [.lit (.bool false)], args := [d1, d2] }
  | _ => none }
def FnExactMixForWrongFalsely : Prop := fnExactMixForRow.holds Try.pinned (OpenSpec.ofChange fnExactMixForWrong)

/-- 'laws.FnExactMostFrom': WHATEVER THE INPUT: true; the input reads as it did. -/
def fnExactMostFromSpec : ChangeSpec := { name := "fnExactMostFrom", fn := fun _ => fun
  | [d1, d2] => { results := [.lit (.bool true)], args := [d1, d2] }
  | _ => none }
def fnExactMostFromRow : OpenClaim := { program := "ytgpnimbgckajlaa", sum := "218341176534451b8d15d7ed154aa19117722f7678f4f5526bd1171c68fd9f12", func := "loop.example/g01383/laws.FnExactMostFrom", spec := "fnExactMostFrom", unfollowed := true, recurses := true, apart := false }
def FnExactMostFromSaid : Prop := fnExactMostFromRow.holds Try.pinned (OpenSpec.ofChange fnExactMostFromSpec)

/-- ITS FALSE NEIGHBOUR: 'it returns false'. Refute it at one input. -/
def fnExactMostFromWrong : ChangeSpec := { name := "fnExactMostFrom", fn := fun _ => fun
  | [d1, d2] => { results := [.lit (.bool false)], args := [d1, d2] }
  | _ => none }
def FnExactMostFromWrongFalsely : Prop := fnExactMostFromRow.holds Try.pinned (OpenSpec.ofChange fnExactMostFromWrong)

/-- 'laws.FnExactBestMix': WHATEVER THE INPUT: true; the input reads as it did. -/
def fnExactBestMixSpec : ChangeSpec := { name := "fnExactBestMix", fn := fun _ => fun
  | [d1, d2] => { results := [.lit (.bool true)], args := [d1, d2] }
  | _ => none }
def fnExactBestMixRow : OpenClaim := { program := "ytgpnimbgckajlaa", sum := "218341176534451b8d15d7ed154aa19117722f7678f4f5526bd1171c68fd9f12", func := "loop.example/g01383/laws.FnExactBestMix", spec := "fnExactBestMix", unfollowed := true, recurses := true, apart := false }
def FnExactBestMixSaid : Prop := fnExactBestMixRow.holds Try.pinned (OpenSpec.ofChange fnExactBestMixSpec)

/-- ITS FALSE NEIGHBOUR: 'it returns false'. Refute it at one input. -/
def fnExactBestMixWrong : ChangeSpec := { name := "fnExactBestMix", fn := fun _ => fun
  | [d1, d2] => { results := [.lit (.bool false)], args := [d1, d2] }
  | _ => none }
def FnExactBestMixWrongFalsely : Prop := fnExactBestMixRow.holds Try.pinned (OpenSpec.ofChange fnExactBestMixWrong)

/-- 'laws.FnExactBagsFor': WHATEVER THE INPUT: true; the input reads as it did. -/
def fnExactBagsForSpec : ChangeSpec := { name := "fnExactBagsFor", fn := fun _ => fun
  | [d1, d2, d3] => { results := [.lit (.bool true)], args := [d1, d2, d3] }
  | _ => none }
def fnExactBagsForRow : OpenClaim := { program := "ytgpnimbgckajlaa", sum := "218341176534451b8d15d7ed154aa19117722f7678f4f5526bd1171c68fd9f12", func := "loop.example/g01383/laws.FnExactBagsFor", spec := "fnExactBagsFor", apart := false }
def FnExactBagsForSaid : Prop := fnExactBagsForRow.holds Try.pinned (OpenSpec.ofChange fnExactBagsForSpec)

/-- ITS FALSE NEIGHBOUR: 'it returns false'. Refute it at one input. -/
def fnExactBagsForWrong : ChangeSpec := { name := "fnExactBagsFor", fn := fun _ => fun
  | [d1, d2, d3] => { results := [.lit (.bool false)], args := [d1, d2, d3] }
  | _ => none }
def FnExactBagsForWrongFalsely : Prop := fnExactBagsForRow.holds Try.pinned (OpenSpec.ofChange fnExactBagsForWrong)

/-- 'laws.FnExactPiecesOf': WHATEVER THE INPUT: true; the input reads as it did. -/
def fnExactPiecesOfSpec : ChangeSpec := { name := "fnExactPiecesOf", fn := fun _ => fun
  | [d] => { results := [.lit (.bool true)], args := [d] }
  | _ => none }
def fnExactPiecesOfRow : OpenClaim := { program := "ytgpnimbgckajlaa", sum := "218341176534451b8d15d7ed154aa19117722f7678f4f5526bd1171c68fd9f12", func := "loop.example/g01383/laws.FnExactPiecesOf", spec := "fnExactPiecesOf", unfollowed := true, recurses := true, apart := false }
def FnExactPiecesOfSaid : Prop := fnExactPiecesOfRow.holds Try.pinned (OpenSpec.ofChange fnExactPiecesOfSpec)

/-- ITS FALSE NEIGHBOUR: 'it returns false'. Refute it at one input. -/
def fnExactPiecesOfWrong : ChangeSpec := { name := "fnExactPiecesOf", fn := fun _ => fun
  | [d] => { results := [.lit (.bool false)], args := [d] }
  | _ => none }
def FnExactPiecesOfWrongFalsely : Prop := fnExactPiecesOfRow.holds Try.pinned (OpenSpec.ofChange fnExactPiecesOfWrong)

/- THE SECOND FORM. 'bulk': how many values and letters a reading holds, each counted each time it is reached (what is shared counts as often as it is met; a slice's spare places count too). A statement '..UptoSaid' is the law's where the arguments, and the package variables that the reading takes, are together of bulk at most 1048576: NARROWER than '..Said'. Prove '..Said' where nothing that the law and all that it calls make is longer than what came in: it says more and counts as full. Else prove '..UptoSaid'. A law counts once. -/
mutual
def uptoBulk {H : Type} : DataW H → Nat
  | .lit (.string bytes) => bytes.length + 1
  | .lit _ => 1
  | .nil => 1
  | .ptr d => uptoBulk d + 1
  | .slice elems spare => uptoBulkAll elems + uptoBulkAll spare + 1
  | .agg parts => uptoBulkAll parts + 1
  | .iface _ d => uptoBulk d + 1
  | .map entries => uptoBulkEntries entries + 1
  | .held _ => 1
def uptoBulkAll {H : Type} : List (DataW H) → Nat
  | [] => 0
  | d :: r => uptoBulk d + uptoBulkAll r
def uptoBulkEntries {H : Type} : List (Lit × DataW H) → Nat
  | [] => 0
  | x :: r => uptoBulkEntry x + uptoBulkEntries r
def uptoBulkEntry {H : Type} : Lit × DataW H → Nat
  | (.string bytes, d) => bytes.length + uptoBulk d + 1
  | (_, d) => uptoBulk d + 1
 end
def uptoSmall : (H : Type) → List (DataW H) → Bool := fun _ ds => decide (uptoBulkAll ds ≤ 1048576)
def OpenSpec.upto (s : _root_.Go.ChangeSpec) : _root_.Go.OpenSpec := { _root_.Go.OpenSpec.ofChange s with cond := some uptoSmall }

/-- 'laws.FnExactValidGang', WHERE WHAT IT READS IS OF BULK AT MOST 1048576: true; the input reads as it did. -/
def fnExactValidGangUptoRow : OpenClaim := { program := "ytgpnimbgckajlaa", sum := "218341176534451b8d15d7ed154aa19117722f7678f4f5526bd1171c68fd9f12", func := "loop.example/g01383/laws.FnExactValidGang", spec := "fnExactValidGang", apart := false, narrowed := true }
def FnExactValidGangUptoSaid : Prop := fnExactValidGangUptoRow.holds Try.pinned (OpenSpec.upto fnExactValidGangSpec)

/-- 'laws.FnExactValidRows', WHERE WHAT IT READS IS OF BULK AT MOST 1048576: true; the input reads as it did. -/
def fnExactValidRowsUptoRow : OpenClaim := { program := "ytgpnimbgckajlaa", sum := "218341176534451b8d15d7ed154aa19117722f7678f4f5526bd1171c68fd9f12", func := "loop.example/g01383/laws.FnExactValidRows", spec := "fnExactValidRows", unfollowed := true, recurses := true, apart := false, narrowed := true }
def FnExactValidRowsUptoSaid : Prop := fnExactValidRowsUptoRow.holds Try.pinned (OpenSpec.upto fnExactValidRowsSpec)

/-- 'laws.FnExactDaysFor', WHERE WHAT IT READS IS OF BULK AT MOST 1048576: true; the input reads as it did. -/
def fnExactDaysForUptoRow : OpenClaim := { program := "ytgpnimbgckajlaa", sum := "218341176534451b8d15d7ed154aa19117722f7678f4f5526bd1171c68fd9f12", func := "loop.example/g01383/laws.FnExactDaysFor", spec := "fnExactDaysFor", apart := false, narrowed := true }
def FnExactDaysForUptoSaid : Prop := fnExactDaysForUptoRow.holds Try.pinned (OpenSpec.upto fnExactDaysForSpec)

/-- 'laws.FnExactCalendarDays', WHERE WHAT IT READS IS OF BULK AT MOST 1048576: true; the input reads as it did. -/
def fnExactCalendarDaysUptoRow : OpenClaim := { program := "ytgpnimbgckajlaa", sum := "218341176534451b8d15d7ed154aa19117722f7678f4f5526bd1171c68fd9f12", func := "loop.example/g01383/laws.FnExactCalendarDays", spec := "fnExactCalendarDays", apart := false, narrowed := true }
def FnExactCalendarDaysUptoSaid : Prop := fnExactCalendarDaysUptoRow.holds Try.pinned (OpenSpec.upto fnExactCalendarDaysSpec)

/-- 'laws.FnExactValidMix', WHERE WHAT IT READS IS OF BULK AT MOST 1048576: true; the input reads as it did. -/
def fnExactValidMixUptoRow : OpenClaim := { program := "ytgpnimbgckajlaa", sum := "218341176534451b8d15d7ed154aa19117722f7678f4f5526bd1171c68fd9f12", func := "loop.example/g01383/laws.FnExactValidMix", spec := "fnExactValidMix", apart := false, narrowed := true }
def FnExactValidMixUptoSaid : Prop := fnExactValidMixUptoRow.holds Try.pinned (OpenSpec.upto fnExactValidMixSpec)

/-- 'laws.FnExactMixFor', WHERE WHAT IT READS IS OF BULK AT MOST 1048576: true; the input reads as it did. -/
def fnExactMixForUptoRow : OpenClaim := { program := "ytgpnimbgckajlaa", sum := "218341176534451b8d15d7ed154aa19117722f7678f4f5526bd1171c68fd9f12", func := "loop.example/g01383/laws.FnExactMixFor", spec := "fnExactMixFor", apart := false, narrowed := true }
def FnExactMixForUptoSaid : Prop := fnExactMixForUptoRow.holds Try.pinned (OpenSpec.upto fnExactMixForSpec)

/-- 'laws.FnExactMostFrom', WHERE WHAT IT READS IS OF BULK AT MOST 1048576: true; the input reads as it did. -/
def fnExactMostFromUptoRow : OpenClaim := { program := "ytgpnimbgckajlaa", sum := "218341176534451b8d15d7ed154aa19117722f7678f4f5526bd1171c68fd9f12", func := "loop.example/g01383/laws.FnExactMostFrom", spec := "fnExactMostFrom", unfollowed := true, recurses := true, apart := false, narrowed := true }
def FnExactMostFromUptoSaid : Prop := fnExactMostFromUptoRow.holds Try.pinned (OpenSpec.upto fnExactMostFromSpec)

/-- 'laws.FnExactBestMix', WHERE WHAT IT READS IS OF BULK AT MOST 1048576: true; the input reads as it did. -/
def fnExactBestMixUptoRow : OpenClaim := { program := "ytgpnimbgckajlaa", sum := "218341176534451b8d15d7ed154aa19117722f7678f4f5526bd1171c68fd9f12", func := "loop.example/g01383/laws.FnExactBestMix", spec := "fnExactBestMix", unfollowed := true, recurses := true, apart := false, narrowed := true }
def FnExactBestMixUptoSaid : Prop := fnExactBestMixUptoRow.holds Try.pinned (OpenSpec.upto fnExactBestMixSpec)

/-- 'laws.FnExactBagsFor', WHERE WHAT IT READS IS OF BULK AT MOST 1048576: true; the input reads as it did. -/
def fnExactBagsForUptoRow : OpenClaim := { program := "ytgpnimbgckajlaa", sum := "218341176534451b8d15d7ed154aa19117722f7678f4f5526bd1171c68fd9f12", func := "loop.example/g01383/laws.FnExactBagsFor", spec := "fnExactBagsFor", apart := false, narrowed := true }
def FnExactBagsForUptoSaid : Prop := fnExactBagsForUptoRow.holds Try.pinned (OpenSpec.upto fnExactBagsForSpec)

/-- 'laws.FnExactPiecesOf', WHERE WHAT IT READS IS OF BULK AT MOST 1048576: true; the input reads as it did. -/
def fnExactPiecesOfUptoRow : OpenClaim := { program := "ytgpnimbgckajlaa", sum := "218341176534451b8d15d7ed154aa19117722f7678f4f5526bd1171c68fd9f12", func := "loop.example/g01383/laws.FnExactPiecesOf", spec := "fnExactPiecesOf", unfollowed := true, recurses := true, apart := false, narrowed := true }
def FnExactPiecesOfUptoSaid : Prop := fnExactPiecesOfUptoRow.holds Try.pinned (OpenSpec.upto fnExactPiecesOfSpec)

end Rows
end Go.Proofs.Ytgpnimbgckajlaa
