/- One act: what the laws' own helpers do to it; one that came in, opened. -/
import Derived.Test.YtnlcknklghalkaaShelfDo
import Derived.Test.YtnlcknklghalkaaOpenDisk
namespace Go.Proofs.Ytnlcknklghalkaa
open Go.ChangeShapes Go.WideShapes Go.ChangeAt Go.RowKit
open Plain
set_option linter.unusedVariables false

def ActIn (x : Ac) : Prop := x.name.size ≤ maxLen ∧ x.text.size ≤ maxLen ∧ x.to.size ≤ maxLen

theorem add_three (y : Addr) : y.add 3 = ⟨y.block, y.off + 3, none⟩ := by simp [Addr.add]

end Go.Proofs.Ytnlcknklghalkaa
