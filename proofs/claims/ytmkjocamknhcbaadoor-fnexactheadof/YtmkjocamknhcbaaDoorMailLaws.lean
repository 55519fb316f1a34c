/- The walks of the exact laws on mails: over whatever contracts of the program's own functions. -/
import Derived.Test.YtmkjocamknhcbaaDoorSubjectS
namespace Go.Proofs.YtmkjocamknhcbaaDoor
open Go.RowKit
open Plain
set_option linter.unusedVariables false

theorem FnExactHeadOf_walk (s : ByteArray) (name : ByteArray) (w : World) (CI : ∀ (W : World), s.size ≤ 1048576 → name.size ≤ 1048576 → Below w.heap.size w W → Calls Tryd.prog 11 #[.string s, .string name] W fun e w' => e = .returned (.tuple #[.string ⟨(headL s.data.toList name.data.toList).1.toArray⟩, .bool (headL s.data.toList name.data.toList).2]) ∧ Below W.heap.size W w') :
    Calls Tryd.prog 6 #[.string s, .string name] w fun e w' => e = .returned (.bool true) ∧ Below w.heap.size w w' := by
  have CI := hide CI
  by_cases h0 : s.size ≤ 1048576
  · have d0 : decide ((1048576 : Int) < (s.size : Int)) = false := by rw [decide_eq_false_iff_not]; omega
    by_cases h1 : name.size ≤ 1048576
    · have d1 : decide ((1048576 : Int) < (name.size : Int)) = false := by rw [decide_eq_false_iff_not]; omega
      have Q := hide (spec_HeadOf_any s name w h0 h1)
      have CJ := hide (fun W hb => unhide CI W h0 h1 hb)
      clear CI
      generalize headL s.data.toList name.data.toList = x at *
      obtain ⟨x1, x2⟩ := x
      simp only at Q CJ
      generalize (⟨x1.toArray⟩ : ByteArray) = X at *
      go_enter Tryd.func6, Tryd.ntmps6
      go_wp2_with fail
      refine (unhide Q).mono ?_
      rintro e w1 ⟨rfl, hb0⟩
      have B0 := hide hb0
      clear hb0
      go_wp2_with fail
      refine (unhide CJ _ (unhide B0)).mono ?_
      rintro e w2 ⟨rfl, hb1⟩
      have B := hide ((unhide B0).trans (hb1.mono (unhide B0).size))
      clear hb1
      go_wp2
      go_ret
      exact ⟨rfl, unhide B⟩
    · have d1 : decide ((1048576 : Int) < (name.size : Int)) = true := by rw [decide_eq_true_eq]; omega
      go_enter Tryd.func6, Tryd.ntmps6
      go_wp2
      go_ret
      exact ⟨rfl, Below.refl _ _⟩
  · have d0 : decide ((1048576 : Int) < (s.size : Int)) = true := by rw [decide_eq_true_eq]; omega
    go_enter Tryd.func6, Tryd.ntmps6
    go_wp2
    go_ret
    exact ⟨rfl, Below.refl _ _⟩

end Go.Proofs.YtmkjocamknhcbaaDoor
