/- Rows of bytes that a call makes, and strings out of them. -/
import Derived.Test.YtgdihceikhkddaaDoorProg
import Derived.Test.YtgdihceikhkddaaDoorPlainA
import Derived.WalkKit
import Derived.WalkSpells
import Derived.ProofKit
import Derived.Handy
import Derived.Laws.IdiomStrings
namespace Go.Proofs.YtgdihceikhkddaaDoor
open Go.RowKit
open Plain
set_option linter.unusedVariables false

/-- A slice of one byte that was laid just now, as a string. -/
theorem one_str (W : World) (b : UInt8) : (convert 45 9 (.slice (some ⟨W.heap.size, 0, none⟩) 1 1)).run Tryd.prog (W.alloc (.cells #[.int .u8 (b.toNat : Int)] 5)) = .ok (.string ⟨[b].toArray⟩) (W.alloc (.cells #[.int .u8 (b.toNat : Int)] 5)) := by
 refine run_convert_bytes_back (P := Tryd.prog) _ 45 9 5 ⟨W.heap.size, 0, none⟩ 1 [b] Tryd.underlying45 Tryd.underlying5 Tryd.underlying9 ?_
 intro j hj
 have : j = 0 := by simp at hj; omega
 subst this
 simp [Addr.add]
end Go.Proofs.YtgdihceikhkddaaDoor
