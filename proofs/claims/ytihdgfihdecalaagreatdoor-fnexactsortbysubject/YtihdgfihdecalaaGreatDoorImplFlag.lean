/- Flags: the program's FlagsOk, has, with, without, after, FlagsAfter. -/
import Derived.Test.YtihdgfihdecalaaGreatDoorBmA
import Derived.Test.YtihdgfihdecalaaGreatDoorPlainA
namespace Go.Proofs.YtihdgfihdecalaaGreatDoor
open Go.RowKit
open Plain
set_option linter.unusedVariables false

namespace Plain
end Plain

theorem impl_FlagsOk_any (b : Int) (w : World) :
    Calls Tryz.prog 85 #[.int .i64 b] w fun e w' => e = .returned (.bool (flOk b)) ∧ w' = w := by
  by_cases h : 0 ≤ b
  · have hd : decide (0 ≤ b) = true := by simpa using h
    by_cases h2 : b ≤ 31
    · have hd2 : decide (b < 32) = true := by simp; omega
      rw [flOk_in h h2]
      go_enter Tryz.func85, Tryz.ntmps85
      go_wp2
      go_ret
      exact ⟨rfl, rfl⟩
    · have hd2 : decide (b < 32) = false := by simp; omega
      rw [flOk_no (fun x => h2 x.2)]
      go_enter Tryz.func85, Tryz.ntmps85
      go_wp2
      go_ret
      exact ⟨rfl, rfl⟩
  · have hd : decide (0 ≤ b) = false := by simpa using h
    rw [flOk_no (fun x => h x.1)]
    go_enter Tryz.func85, Tryz.ntmps85
    go_wp2
    go_ret
    exact ⟨rfl, rfl⟩

end Go.Proofs.YtihdgfihdecalaaGreatDoor
