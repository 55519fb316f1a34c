/- strings.Clone. -/
import Derived.Test.YtmkjocamknhcbaaDoorBase
import Derived.Test.YtmkjocamknhcbaaDoorShelf
namespace Go.Proofs.YtmkjocamknhcbaaDoor
open Go.RowKit
set_option linter.unusedVariables false
theorem Clone_any (s : ByteArray) (w : World) (h : s.size ≤ 281474976710656) :
    Calls Tryd.prog 30 #[.string s] w fun e w' => e = .returned (.string s) ∧ Below w.heap.size w w' := by
  go_enter Tryd.func30, Tryd.ntmps30
  go_wp2_with (go_at_call 45; refine (Tryd.stringslite_Clone s _ h).mono ?_; rintro e w1 ⟨rfl, hb⟩)
  go_ret
  exact ⟨rfl, hb⟩
end Go.Proofs.YtmkjocamknhcbaaDoor
