/- The laws of chapter 8 at inputs of over 2^20 bytes. -/
import Derived.Test.YtmedhmgihfenhaaDrawKit
namespace Go.Proofs.Ytmedhmgihfenhaa
open Go.RowKit
open Plain
set_option linter.unusedVariables false

theorem FnAdds_big (len cap : Nat) (a : Option Addr) (w : World) (h1 : 1048576 < len) (h2 : len ≤ 9223372036854775807) :
    Calls Try.prog 3 #[.slice a len cap] w fun e w' => e = .returned (.bool true) ∧ Below w.heap.size w w' := by
  have q0 := bigF_any len cap a w h2
  have hd : decide ((1048576 : Int) < (len : Int)) = true := by simp; omega
  rw [hd] at q0
  have Q := hide q0
  clear q0 hd h1 h2
  go_enter Try.func3, Try.ntmps3
  go_wp2_with (go_at_call 6; refine (unhide Q).mono ?_; rintro e w0 ⟨rfl, hw⟩; subst w0)
  go_ret
  exact ⟨rfl, Below.refl _ _⟩

theorem FnSince_big (len cap : Nat) (a : Option Addr) (w : World) (h1 : 1048576 < len) (h2 : len ≤ 9223372036854775807) :
    Calls Try.prog 4 #[.slice a len cap] w fun e w' => e = .returned (.bool true) ∧ Below w.heap.size w w' := by
  have q0 := bigF_any len cap a w h2
  have hd : decide ((1048576 : Int) < (len : Int)) = true := by simp; omega
  rw [hd] at q0
  have Q := hide q0
  clear q0 hd h1 h2
  go_enter Try.func4, Try.ntmps4
  go_wp2_with (go_at_call 6; refine (unhide Q).mono ?_; rintro e w0 ⟨rfl, hw⟩; subst w0)
  go_ret
  exact ⟨rfl, Below.refl _ _⟩

theorem FnForgets_big (len cap : Nat) (a : Option Addr) (w : World) (h1 : 1048576 < len) (h2 : len ≤ 9223372036854775807) :
    Calls Try.prog 5 #[.slice a len cap] w fun e w' => e = .returned (.bool true) ∧ Below w.heap.size w w' := by
  have q0 := bigF_any len cap a w h2
  have hd : decide ((1048576 : Int) < (len : Int)) = true := by simp; omega
  rw [hd] at q0
  have Q := hide q0
  clear q0 hd h1 h2
  go_enter Try.func5, Try.ntmps5
  go_wp2_with (go_at_call 6; refine (unhide Q).mono ?_; rintro e w0 ⟨rfl, hw⟩; subst w0)
  go_ret
  exact ⟨rfl, Below.refl _ _⟩
end Go.Proofs.Ytmedhmgihfenhaa
