/- strings.Clone. -/
import Derived.Test.YtmkjocamknhcbaaBase
import Derived.Test.YtmkjocamknhcbaaShelf
namespace Go.Proofs.Ytmkjocamknhcbaa
open Go.RowKit
set_option linter.unusedVariables false
theorem Clone_any (s : ByteArray) (w : World) (h : s.size ≤ 281474976710656) :
    Calls Try.prog 12 #[.string s] w fun e w' => e = .returned (.string s) ∧ Below w.heap.size w w' := by
  go_enter Try.func12, Try.ntmps12
  go_wp2_with (go_at_call 13; refine (Try.stringslite_Clone s _ h).mono ?_; rintro e w1 ⟨rfl, hb⟩)
  go_ret
  exact ⟨rfl, hb⟩
end Go.Proofs.Ytmkjocamknhcbaa
