/- Rows of strings: what the laws' own helpers do to them. -/
import Derived.Test.YtgdihceikhkddaaBase
import Derived.Test.YtgdihceikhkddaaPlainA
import Derived.Deep.RegionHeld3
import Derived.Deep.QuietTactic
import Derived.BigQuiet
import Derived.WalkSmall
namespace Go.Proofs.Ytgdihceikhkddaa
open Go.RowKit
open Plain
set_option linter.unusedVariables false

/-- The cells of a row of strings. -/
theorem grown_below {w w1 : World} (h : Below w.heap.size w w1) (row : Option Nat) : w.grownBy w1 row := ⟨h.os, h.tape, h.output, h.size, fun k hk _ => h.block k hk⟩
end Go.Proofs.Ytgdihceikhkddaa
