/- The laws of lines at inputs of over 2^20 bytes. -/
import Derived.Test.YtgdihceikhkddaaDrawKit
namespace Go.Proofs.Ytgdihceikhkddaa
open Go.RowKit
open Plain
set_option linter.unusedVariables false

set_option maxRecDepth 100000 in
theorem FnPlaces_big (len cap : Nat) (a : Option Addr) (w : World) (h1 : 1048576 < len) (h2 : len ≤ 9223372036854775807) :
  Calls Try.prog 3 #[.slice a len cap] w fun e w' => e = .returned (.bool true) ∧ Below w.heap.size w w' := by
 have q0 := bigF_any len cap a w h2
 have hd : decide ((1048576 : Int) < (len : Int)) = true := by simp; omega
 rw [hd] at q0
 have Q := hide q0; clear q0 hd h1 h2
 go_enter Try.func3, Try.ntmps3
 go_wp2_with (go_at_call 4; refine (uh Q).mono ?_; rintro e w0 ⟨rfl, hw⟩; subst w0)
 go_ret
 exact ⟨rfl, Below.refl _ _⟩
end Go.Proofs.Ytgdihceikhkddaa
