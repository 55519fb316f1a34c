/- The walks of the exact laws on flags: over whatever contracts of the program's own functions. -/
import Derived.Test.YtmaoadgpcejepaaFlagReadS
namespace Go.Proofs.Ytmaoadgpcejepaa
open Go.RowKit
open Plain
set_option linter.unusedVariables false

theorem FnExactFlagsOk_walk (b : Int) (w : World) (CI : ∀ (W : World), Below w.heap.size w W → Calls Try.prog 6 #[.int .i64 b] W fun e w' => e = .returned (.bool (flOk b)) ∧ Below W.heap.size W w') :
    Calls Try.prog 3 #[.int .i64 b] w fun e w' => e = .returned (.bool true) ∧ Below w.heap.size w w' := by
  have Q := hide (spec_FlagsOk_any b w)
  have CI := hide CI
  generalize flOk b = x at *
  go_enter Try.func3, Try.ntmps3
  go_wp2_with fail
  refine (unhide Q).mono ?_
  rintro e w1 ⟨rfl, hw1⟩
  subst w1
  go_wp2_with fail
  refine (unhide CI _ (Below.refl _ _)).mono ?_
  rintro e w1 ⟨rfl, hb1⟩
  have B := hide hb1
  clear hb1
  go_wp2
  go_ret
  exact ⟨rfl, unhide B⟩

theorem FnExactFlagsAfter_walk (old how bits : Int) (w : World) (CI : ∀ (W : World), Below w.heap.size w W → Calls Try.prog 8 #[.int .i64 old, .int .i64 how, .int .i64 bits] W fun e w' => e = .returned (.int .i64 (afterV old how bits)) ∧ Below W.heap.size W w') :
    Calls Try.prog 4 #[.int .i64 old, .int .i64 how, .int .i64 bits] w fun e w' => e = .returned (.bool true) ∧ Below w.heap.size w w' := by
  have Q := hide (spec_FlagsAfter_any old how bits w)
  have CI := hide CI
  generalize afterV old how bits = x at *
  go_enter Try.func4, Try.ntmps4
  go_wp2_with fail
  refine (unhide Q).mono ?_
  rintro e w1 ⟨rfl, hw1⟩
  subst w1
  go_wp2_with fail
  refine (unhide CI _ (Below.refl _ _)).mono ?_
  rintro e w1 ⟨rfl, hb1⟩
  have B := hide hb1
  clear hb1
  go_wp2
  go_ret
  exact ⟨rfl, unhide B⟩
end Go.Proofs.Ytmaoadgpcejepaa
