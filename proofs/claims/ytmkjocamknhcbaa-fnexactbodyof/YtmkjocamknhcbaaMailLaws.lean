/- The walks of the exact laws on mails: over whatever contracts of the program's own functions. -/
import Derived.Test.YtmkjocamknhcbaaSubjectS
namespace Go.Proofs.Ytmkjocamknhcbaa
open Go.RowKit
open Plain
set_option linter.unusedVariables false

theorem FnExactMailOk_walk (s : ByteArray) (w : World) (CI : ∀ (W : World), s.size ≤ 1048576 → Below w.heap.size w W → Calls Try.prog 6 #[.string s] W fun e w' => e = .returned (.bool (mailOkL s.data.toList)) ∧ Below W.heap.size W w') :
    Calls Try.prog 3 #[.string s] w fun e w' => e = .returned (.bool true) ∧ Below w.heap.size w w' := by
  have CI := hide CI
  by_cases h0 : s.size ≤ 1048576
  · have d0 : decide ((1048576 : Int) < (s.size : Int)) = false := by rw [decide_eq_false_iff_not]; omega
    have Q := hide (spec_MailOk_any s w h0)
    have CJ := hide (fun W hb => unhide CI W h0 hb)
    clear CI
    generalize mailOkL s.data.toList = x at *
    go_enter Try.func3, Try.ntmps3
    go_wp2_with fail
    refine (unhide Q).mono ?_
    rintro e w1 ⟨rfl, hw1⟩
    subst w1
    have B0 := hide (Below.refl w.heap.size w)
    go_wp2_with fail
    refine (unhide CJ _ (unhide B0)).mono ?_
    rintro e w2 ⟨rfl, hb1⟩
    have B := hide ((unhide B0).trans (hb1.mono (unhide B0).size))
    clear hb1
    go_wp2
    go_ret
    exact ⟨rfl, unhide B⟩
  · have d0 : decide ((1048576 : Int) < (s.size : Int)) = true := by rw [decide_eq_true_eq]; omega
    go_enter Try.func3, Try.ntmps3
    go_wp2
    go_ret
    exact ⟨rfl, Below.refl _ _⟩

theorem FnExactBodyOf_walk (s : ByteArray) (w : World) (CI : ∀ (W : World), s.size ≤ 1048576 → Below w.heap.size w W → Calls Try.prog 8 #[.string s] W fun e w' => e = .returned (.string ⟨(bodyL s.data.toList).toArray⟩) ∧ Below W.heap.size W w') :
    Calls Try.prog 4 #[.string s] w fun e w' => e = .returned (.bool true) ∧ Below w.heap.size w w' := by
  have CI := hide CI
  by_cases h0 : s.size ≤ 1048576
  · have d0 : decide ((1048576 : Int) < (s.size : Int)) = false := by rw [decide_eq_false_iff_not]; omega
    have Q := hide (spec_BodyOf_any s w h0)
    have CJ := hide (fun W hb => unhide CI W h0 hb)
    clear CI
    generalize (⟨(bodyL s.data.toList).toArray⟩ : ByteArray) = x at *
    go_enter Try.func4, Try.ntmps4
    go_wp2_with fail
    refine (unhide Q).mono ?_
    rintro e w1 ⟨rfl, hw1⟩
    subst w1
    have B0 := hide (Below.refl w.heap.size w)
    go_wp2_with fail
    refine (unhide CJ _ (unhide B0)).mono ?_
    rintro e w2 ⟨rfl, hb1⟩
    have B := hide ((unhide B0).trans (hb1.mono (unhide B0).size))
    clear hb1
    go_wp2
    go_ret
    exact ⟨rfl, unhide B⟩
  · have d0 : decide ((1048576 : Int) < (s.size : Int)) = true := by rw [decide_eq_true_eq]; omega
    go_enter Try.func4, Try.ntmps4
    go_wp2
    go_ret
    exact ⟨rfl, Below.refl _ _⟩

end Go.Proofs.Ytmkjocamknhcbaa
