/- The specification's l08Copy. Made by gen_boxcopy.py. -/
import Derived.Test.YtmedhmgihfenhabBoxNameS
import Derived.Test.YtmedhmgihfenhabRowsA
namespace Go.Proofs.Ytmedhmgihfenhab
open Go.RowKit
open Plain
set_option linter.unusedVariables false

namespace Plain
theorem mlC_one (l : List Ml) : ∀ x ∈ rowC mlC l, x.oneCell' = true := by
  intro x hx
  obtain ⟨a, _, ha⟩ := List.mem_flatMap.1 hx
  simp [mlC] at ha
  rcases ha with rfl | rfl | rfl | rfl <;> rfl
theorem tbC_one (l : List Tb) : ∀ x ∈ rowC tbC l, x.oneCell' = true := by
  intro x hx
  obtain ⟨a, _, ha⟩ := List.mem_flatMap.1 hx
  simp [tbC] at ha
  rcases ha with rfl | rfl <;> rfl
end Plain
end Go.Proofs.Ytmedhmgihfenhab
