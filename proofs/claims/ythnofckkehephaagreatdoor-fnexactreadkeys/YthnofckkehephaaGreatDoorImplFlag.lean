/- Flags: the program's FlagsOk, has, with, without, after, FlagsAfter. -/
import Derived.Test.YthnofckkehephaaGreatDoorBase
import Derived.Test.YthnofckkehephaaGreatDoorPlainA
namespace Go.Proofs.YthnofckkehephaaGreatDoor
open Go.RowKit
open Plain
set_option linter.unusedVariables false

namespace Plain
theorem orI : ∀ a b : Fin 32, bits .or .i64 (a.val : Int) (b.val : Int) = (a.val : Int) + b.val - andTo a.val b.val 5 := by decide +kernel
theorem notI : ∀ a b : Fin 32, bits .andNot .i64 (a.val : Int) (b.val : Int) = (a.val : Int) - andTo a.val b.val 5 := by decide +kernel
theorem fin_of {a : Int} (h0 : 0 ≤ a) (h1 : a ≤ 31) : ∃ x : Fin 32, (x.val : Int) = a := ⟨⟨a.toNat, by omega⟩, by simp; omega⟩
theorem or_is {a b : Int} (h0 : 0 ≤ a) (h1 : a ≤ 31) (h2 : 0 ≤ b) (h3 : b ≤ 31) : bits .or .i64 a b = a + b - andTo a b 5 := by
  obtain ⟨x, rfl⟩ := fin_of h0 h1
  obtain ⟨y, rfl⟩ := fin_of h2 h3
  exact orI x y
theorem not_is {a b : Int} (h0 : 0 ≤ a) (h1 : a ≤ 31) (h2 : 0 ≤ b) (h3 : b ≤ 31) : bits .andNot .i64 a b = a - andTo a b 5 := by
  obtain ⟨x, rfl⟩ := fin_of h0 h1
  obtain ⟨y, rfl⟩ := fin_of h2 h3
  exact notI x y
end Plain

end Go.Proofs.YthnofckkehephaaGreatDoor
