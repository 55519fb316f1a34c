/- Flags: the program's FlagsOk, has, with, without, after, FlagsAfter. -/
import Derived.Test.YtgdihceikhkddaaDoorBase
import Derived.Test.YtgdihceikhkddaaDoorPlainA
namespace Go.Proofs.YtgdihceikhkddaaDoor
open Go.RowKit
open Plain
set_option linter.unusedVariables false

namespace Plain
theorem fin_of {a : Int} (h0 : 0 ≤ a) (h1 : a ≤ 31) : ∃ x : Fin 32, (x.val : Int) = a := ⟨⟨a.toNat, by omega⟩, by simp; omega⟩
end Plain

theorem impl_FlagsOk_any (b : Int) (w : World) :
  Calls Tryd.prog 34 #[.int .i64 b] w fun e w' => e = .returned (.bool (flOk b)) ∧ w' = w := by
 by_cases h : 0 ≤ b
 ·have hd : decide (0 ≤ b) = true := by simpa using h
  by_cases h2 : b ≤ 31
  ·have hd2 : decide (b < 32) = true := by simp; omega
   rw [flOk_in h h2]
   go_enter Tryd.func34, Tryd.ntmps34
   go_wp2
   go_ret
   exact ⟨rfl, rfl⟩
  ·have hd2 : decide (b < 32) = false := by simp; omega
   rw [flOk_no (fun x => h2 x.2)]
   go_enter Tryd.func34, Tryd.ntmps34
   go_wp2
   go_ret
   exact ⟨rfl, rfl⟩
 ·have hd : decide (0 ≤ b) = false := by simpa using h
  rw [flOk_no (fun x => h x.1)]
  go_enter Tryd.func34, Tryd.ntmps34
  go_wp2
  go_ret
  exact ⟨rfl, rfl⟩

end Go.Proofs.YtgdihceikhkddaaDoor
