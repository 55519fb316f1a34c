/- strings.Clone. -/
import Derived.Test.YtfemplekibpfoacBase
import Derived.Test.YtfemplekibpfoacShelf
namespace Go.Proofs.Ytfemplekibpfoac
open Go.RowKit
set_option linter.unusedVariables false
theorem Clone_any (s : ByteArray) (w : World) (h : s.size ≤ 281474976710656) :
    Calls Try.prog 90 #[.string s] w fun e w' => e = .returned (.string s) ∧ Below w.heap.size w w' := by
  go_enter Try.func90, Try.ntmps90
  go_wp2_with (go_at_call 105; refine (Try.stringslite_Clone s _ h).mono ?_; rintro e w1 ⟨rfl, hb⟩)
  go_ret
  exact ⟨rfl, hb⟩
end Go.Proofs.Ytfemplekibpfoac
