/- Boxes: the program's within and BoxName. -/
import Derived.Test.YtgdihceikhkddaaBoxNameS
import Derived.Test.YtgdihceikhkddaaMailI
namespace Go.Proofs.Ytgdihceikhkddaa
open Go.RowKit
open Plain
set_option linter.unusedVariables false

theorem impl_within_any (x l m : Int) (w : World) : Calls Try.prog 16 #[.int .i64 x, .int .i64 l, .int .i64 m] w fun e w' => e = .returned (.bool (inI x l m)) ∧ w' = w := by
 unfold inI
 by_cases h : l ≤ x
 ·have hd : decide (l ≤ x) = true := by simpa using h
  by_cases h2 : x ≤ m
  ·have hd2 : decide (x ≤ m) = true := by simpa using h2
   rw [hd, hd2]
   go_enter Try.func16, Try.ntmps16
   go_wp2
   go_ret
   exact ⟨rfl, rfl⟩
  ·have hd2 : decide (x ≤ m) = false := by simpa using h2
   rw [hd, hd2]
   go_enter Try.func16, Try.ntmps16
   go_wp2
   go_ret
   exact ⟨rfl, rfl⟩
 ·have hd : decide (l ≤ x) = false := by simpa using h
  rw [hd]
  go_enter Try.func16, Try.ntmps16
  go_wp2
  go_ret
  exact ⟨rfl, rfl⟩

namespace Plain
end Plain

end Go.Proofs.Ytgdihceikhkddaa
