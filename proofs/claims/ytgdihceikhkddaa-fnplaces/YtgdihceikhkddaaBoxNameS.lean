/- The specification's BoxName, l08HasMail. -/
import Derived.Test.YtgdihceikhkddaaBoxP
import Derived.Test.YtgdihceikhkddaaBoxA
import Derived.Test.YtgdihceikhkddaaFlagA
namespace Go.Proofs.Ytgdihceikhkddaa
open Go.RowKit
open Plain
set_option linter.unusedVariables false

theorem in_any (x l m : Int) (w : World) : Calls Try.prog 19 #[.int .i64 x, .int .i64 l, .int .i64 m] w fun e w' => e = .returned (.bool (inI x l m)) ∧ w' = w := l01In_held x l m w
namespace Plain
def letter (c : UInt8) : Bool := decide (97 ≤ c.toNat) && decide (c.toNat ≤ 122)
end Plain
namespace Plain
end Plain
end Go.Proofs.Ytgdihceikhkddaa
