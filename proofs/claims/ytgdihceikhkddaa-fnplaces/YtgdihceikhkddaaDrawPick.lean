/- The draws of the laws: once in a while; one of a list; a long text (DrawNum without grown_below, which Marks has too: not beside DrawNum). -/
import Derived.Test.YtgdihceikhkddaaDrawNew
import Derived.Test.YtgdihceikhkddaaUnPlain
import Derived.WalkMore
import Derived.Laws.OwnMore
namespace Go.Proofs.Ytgdihceikhkddaa
open Go.RowKit
open Plain
set_option linter.unusedVariables false

theorem l01Once_any (B c n : Nat) (w : World) (hc : Cur B w c) (h0 : 0 < n) (h1 : n ≤ 4294967296) :
  Calls Try.prog 23 #[.pointer (some ⟨c, 0, none⟩), .int .i64 n] w fun e w' => ∃ b : Bool, e = .returned (.bool b) ∧ Cur B w' c ∧ w.grownBy w' (some c) := by
 have q := hide (l01Below_any B c n w hc h0 h1)
 go_enter Try.func23, Try.ntmps23
 go_wp2_with (go_at_call 14; refine (uh q).mono ?_; rintro e w1 ⟨x, hx, rfl, hc1, hg1⟩)
 go_ret
 exact ⟨_, rfl, hc1, hg1⟩

end Go.Proofs.Ytgdihceikhkddaa
