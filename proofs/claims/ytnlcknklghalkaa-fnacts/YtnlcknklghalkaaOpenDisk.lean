/- A disk that came in as an argument, opened. -/
import Derived.Test.YtnlcknklghalkaaFiles
import Derived.Deep.Strs
import Derived.Deep.Slices
import Derived.ChangeArms
import Derived.OpenShut
namespace Go.Proofs.Ytnlcknklghalkaa
open Go.RowKit Go.ChangeShapes Go.WideShapes Go.Deep
open Plain
set_option linter.unusedVariables false

theorem Try.cellsStr : Try.prog.cellsOf 9 = 1 := by kernel_rfl
theorem Try.cellsInt : Try.prog.cellsOf 3 = 1 := by kernel_rfl
theorem add_one (y : Addr) : y.add 1 = ⟨y.block, y.off + 1, none⟩ := by simp [Addr.add]
theorem add_two (y : Addr) : y.add 2 = ⟨y.block, y.off + 2, none⟩ := by simp [Addr.add]

end Go.Proofs.Ytnlcknklghalkaa
