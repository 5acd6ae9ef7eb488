/-
  What refuses with a code. Conditions stand at each.
-/
import Derived.Test.YtfpoikeibjojgaaDoorRows
namespace Go.Proofs.YtfpoikeibjojgaaDoor
open Go
/-- an error that refuses with a code. -/
def Refuses (x : Value) (c : Int) : Prop := (∃ s : ByteArray, x = .iface 126 (.agg #[.string s]) ∧ c = 1) ∨ (∃ k : Int, x = .iface 130 (.agg #[.int .i64 k]) ∧ c = 3) ∨
  (∃ k : Int, x = .iface 134 (.agg #[.int .i64 k]) ∧ c = 2) ∨ (∃ k : Int, x = .iface 90 (.agg #[.int .i64 k]) ∧ c = 4)
end Go.Proofs.YtfpoikeibjojgaaDoor
