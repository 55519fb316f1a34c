/- strings.Clone. -/
import Derived.Test.YtmedhmgihfenhabBase
import Derived.Test.YtmedhmgihfenhabShelf
namespace Go.Proofs.Ytmedhmgihfenhab
open Go.RowKit
set_option linter.unusedVariables false
theorem Clone_any (s : ByteArray) (w : World) (h : s.size ≤ 281474976710656) :
    Calls Try.prog 15 #[.string s] w fun e w' => e = .returned (.string s) ∧ Below w.heap.size w w' := by
  go_enter Try.func15, Try.ntmps15
  go_wp2_with (go_at_call 28; refine (Try.stringslite_Clone s _ h).mono ?_; rintro e w1 ⟨rfl, hb⟩)
  go_ret
  exact ⟨rfl, hb⟩
end Go.Proofs.Ytmedhmgihfenhab
