/- strings.Clone. -/
import Derived.Test.YtifiadkbepdehaaBase
import Derived.Test.YtifiadkbepdehaaShelf
namespace Go.Proofs.Ytifiadkbepdehaa
open Go.RowKit
set_option linter.unusedVariables false
theorem Clone_any (s : ByteArray) (w : World) (h : s.size ≤ 281474976710656) :
    Calls Try.prog 39 #[.string s] w fun e w' => e = .returned (.string s) ∧ Below w.heap.size w w' := by
  go_enter Try.func39, Try.ntmps39
  go_wp2_with (go_at_call 75; refine (Try.stringslite_Clone s _ h).mono ?_; rintro e w1 ⟨rfl, hb⟩)
  go_ret
  exact ⟨rfl, hb⟩
end Go.Proofs.Ytifiadkbepdehaa
