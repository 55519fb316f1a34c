/- Flags: the specification's FlagsOk, l06And, FlagsAfter. -/
import Derived.Test.YtmkjocamknhcbabDoorBase
import Derived.Test.YtmkjocamknhcbabDoorFlagPlain
namespace Go.Proofs.YtmkjocamknhcbabDoor
open Go.RowKit
open Plain
set_option linter.unusedVariables false

namespace Plain
theorem and_range (a b : Int) : ∀ k, k ≤ 5 → 0 ≤ andTo a b k ∧ andTo a b k < 2 ^ k := by
  intro k
  induction k with
  | zero => intro _; exact ⟨Int.le_refl _, by show (0 : Int) < 2 ^ 0; decide⟩
  | succ k ih =>
    intro hk
    obtain ⟨i1, i2⟩ := ih (by omega)
    have hp : (0 : Int) < 2 ^ k := Int.pow_pos (by decide)
    rw [andTo, Int.pow_succ]
    split <;> omega
end Plain

end Go.Proofs.YtmkjocamknhcbabDoor
