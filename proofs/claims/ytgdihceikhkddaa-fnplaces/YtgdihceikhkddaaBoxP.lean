/- Several texts in one: BoxPlain, FlagsPlain8, UidSetPlain. Made by fuse_tl.py. -/
import Derived.Test.YtgdihceikhkddaaBoxA
import Derived.Test.YtgdihceikhkddaaPlainA
/- Boxes, plainly: when one is right. Nothing of the program stands here but how a box is written down. -/
namespace Go.Proofs.Ytgdihceikhkddaa.Plain
open Go.RowKit
set_option linter.unusedVariables false

def inI (x l m : Int) : Bool := decide (l ≤ x) && decide (x ≤ m)
def before {α : Type} (l : List α) (i : Nat) : Option α := match i with | 0 => none | j + 1 => l[j]?
end Go.Proofs.Ytgdihceikhkddaa.Plain

/- Boxes, plainly: flags of those that are told change. Nothing of the program stands here. -/
namespace Go.Proofs.Ytgdihceikhkddaa.Plain
open Go.RowKit
set_option linter.unusedVariables false

end Go.Proofs.Ytgdihceikhkddaa.Plain

/- Sets of Uids, plainly: one after the other added, or all united. Nothing of the program stands here. -/
namespace Go.Proofs.Ytgdihceikhkddaa.Plain
open Go.RowKit
set_option linter.unusedVariables false

end Go.Proofs.Ytgdihceikhkddaa.Plain
