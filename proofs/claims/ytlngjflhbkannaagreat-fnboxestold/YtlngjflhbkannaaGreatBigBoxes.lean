/- The laws of chapter 8 at inputs of over 2^20 bytes. -/
import Derived.Test.YtlngjflhbkannaaGreatDwA
namespace Go.Proofs.YtlngjflhbkannaaGreat
open Go.RowKit
open Plain
set_option linter.unusedVariables false

set_option maxRecDepth 100000 in
theorem FnBoxesTold_big (len cap : Nat) (a : Option Addr) (w : World) (h1 : 1048576 < len) (h2 : len ≤ 9223372036854775807) :
  Calls Tryz.prog 4 #[.slice a len cap] w fun e w' => e = .returned (.bool true) ∧ Below w.heap.size w w' := by
 have q0 := bigF_any len cap a w h2
 have hd : decide ((1048576 : Int) < (len : Int)) = true := by simp; omega
 rw [hd] at q0
 have Q := hide q0; clear q0 hd h1 h2
 go_enter Tryz.func4, Tryz.ntmps4
 go_wp2_with (go_at_call 16; refine (uh Q).mono ?_; rintro e w0 ⟨rfl, hw⟩; subst w0)
 go_ret
 exact ⟨rfl, Below.refl _ _⟩

end Go.Proofs.YtlngjflhbkannaaGreat
