/- The walks of the exact laws on mails: over whatever contracts of the program's own functions. -/
import Derived.Test.YtmkjocamknhcbabSubjectS
namespace Go.Proofs.Ytmkjocamknhcbab
open Go.RowKit
open Plain
set_option linter.unusedVariables false

theorem FnExactPartOf_walk (s : ByteArray) (p : Int) (n : Int) (w : World) (hn : n ≤ 9223372036854775807) (CI : ∀ (W : World), s.size ≤ 1048576 → Below w.heap.size w W → Calls Try.prog 5 #[.string s, .int .i64 p, .int .i64 n] W fun e w' => e = .returned (.string ⟨(partL s.data.toList p n).toArray⟩) ∧ Below W.heap.size W w') :
    Calls Try.prog 3 #[.string s, .int .i64 p, .int .i64 n] w fun e w' => e = .returned (.bool true) ∧ Below w.heap.size w w' := by
  have CI := hide CI
  by_cases h0 : s.size ≤ 1048576
  · have d0 : decide ((1048576 : Int) < (s.size : Int)) = false := by rw [decide_eq_false_iff_not]; omega
    have Q := hide (spec_PartOf_any s p n w h0 hn)
    have CJ := hide (fun W hb => unhide CI W h0 hb)
    clear CI
    generalize (⟨(partL s.data.toList p n).toArray⟩ : ByteArray) = x at *
    go_enter Try.func3, Try.ntmps3
    go_wp2_with fail
    refine (unhide Q).mono ?_
    rintro e w1 ⟨rfl, hw1⟩
    subst w1
    have B0 := hide (Below.refl w.heap.size w)
    go_wp2_with fail
    refine (unhide CJ _ (unhide B0)).mono ?_
    rintro e w2 ⟨rfl, hb1⟩
    have B := hide ((unhide B0).trans (hb1.mono (unhide B0).size))
    clear hb1
    go_wp2
    go_ret
    exact ⟨rfl, unhide B⟩
  · have d0 : decide ((1048576 : Int) < (s.size : Int)) = true := by rw [decide_eq_true_eq]; omega
    go_enter Try.func3, Try.ntmps3
    go_wp2
    go_ret
    exact ⟨rfl, Below.refl _ _⟩
end Go.Proofs.Ytmkjocamknhcbab
