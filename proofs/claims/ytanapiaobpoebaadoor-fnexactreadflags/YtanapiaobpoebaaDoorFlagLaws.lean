/- The walks of the exact laws on flags: over whatever contracts of the program's own functions. -/
import Derived.Test.YtanapiaobpoebaaDoorFlagA
namespace Go.Proofs.YtanapiaobpoebaaDoor
open Go.RowKit
open Plain
set_option linter.unusedVariables false

theorem FnExactReadFlags_walk (s : ByteArray) (w : World) (CI : ∀ (W : World), s.size ≤ 1048576 → Below w.heap.size w W → Calls Tryd.prog 7 #[.string s] W fun e w' => e = .returned (.tuple #[.int .i64 (readF s.data.toList).1, .bool (readF s.data.toList).2]) ∧ Below W.heap.size W w') :
    Calls Tryd.prog 3 #[.string s] w fun e w' => e = .returned (.bool true) ∧ Below w.heap.size w w' := by
  have CI := hide CI
  by_cases hs : s.size ≤ 1048576
  · have d : decide ((1048576 : Int) < (s.size : Int)) = false := by rw [decide_eq_false_iff_not]; omega
    have Q := hide (spec_ReadFlags_any s w hs)
    have CJ := hide (fun W hb => unhide CI W hs hb)
    clear CI
    generalize readF s.data.toList = x at *
    obtain ⟨x1, x2⟩ := x
    simp only at Q CJ
    go_enter Tryd.func3, Tryd.ntmps3
    go_wp2_with fail
    refine (unhide Q).mono ?_
    rintro e w1 ⟨rfl, hb0⟩
    have B0 := hide hb0
    clear hb0
    go_wp2_with fail
    refine (unhide CJ _ (unhide B0)).mono ?_
    rintro e w1 ⟨rfl, hb1⟩
    have B := hide ((unhide B0).trans (hb1.mono (unhide B0).size))
    clear hb1
    go_wp2
    go_ret
    exact ⟨rfl, unhide B⟩
  · have d : decide ((1048576 : Int) < (s.size : Int)) = true := by rw [decide_eq_true_eq]; omega
    go_enter Tryd.func3, Tryd.ntmps3
    go_wp2
    go_ret
    exact ⟨rfl, Below.refl _ _⟩

end Go.Proofs.YtanapiaobpoebaaDoor
