/- Laws at an input of over 2^20 bytes. Made by mk_big.py. -/
import Derived.Test.YtjaohlnejkgkaaaDoorBase
namespace Go.Proofs.YtjaohlnejkgkaaaDoor
open Go.RowKit
open Plain
set_option linter.unusedVariables false

theorem bigC_any (len cap : Nat) (a : Option Addr) (w : World) (hl : len ≤ 9223372036854775807) :
    Calls Tryd.prog 11 #[.slice a len cap] w fun e w' => e = .returned (.bool (decide ((1048576 : Int) < (len : Int)))) ∧ w' = w := by
  go_enter Tryd.func11, Tryd.ntmps11
  go_wp2
  go_ret
  exact ⟨rfl, rfl⟩
theorem FnCommands_big (len cap : Nat) (a : Option Addr) (w : World) (h1 : 1048576 < len) (h2 : len ≤ 9223372036854775807) :
    Calls Tryd.prog 5 #[.slice a len cap] w fun e w' => e = .returned (.bool true) ∧ Below w.heap.size w w' := by
  have Q := bigC_any len cap a w h2
  rw [show decide ((1048576 : Int) < len) = true by rw [decide_eq_true_eq]; omega] at Q
  have Q := hide Q
  go_enter Tryd.func5, Tryd.ntmps5
  go_wp2_with (go_at_call 11; refine (unhide Q).mono ?_; rintro e w1 ⟨rfl, hw⟩; subst w1)
  go_ret
  exact ⟨rfl, Below.refl _ _⟩
end Go.Proofs.YtjaohlnejkgkaaaDoor
