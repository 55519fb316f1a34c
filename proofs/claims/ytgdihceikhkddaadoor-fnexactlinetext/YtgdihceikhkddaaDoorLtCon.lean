/- The contracts that a line's text leans on. Made by gen_linetext.py. -/
import Derived.Test.YtgdihceikhkddaaDoorLtPlain
import Derived.Test.YtgdihceikhkddaaDoorImplText
import Derived.Test.YtgdihceikhkddaaDoorFlagTextI
import Derived.Test.YtgdihceikhkddaaDoorDec
import Derived.Test.YtgdihceikhkddaaDoorDecS
namespace Go.Proofs.YtgdihceikhkddaaDoor
open Go.RowKit Go.ChangeShapes Go.WideShapes Go.ChangeAt Go.Deep
open Plain
set_option linter.unusedVariables false
set_option linter.unusedSimpArgs false

theorem decI (n : Int) (w : World) (h0 : 0 ≤ n) (h1 : n ≤ 100000) (ht : Pow w) : Calls Tryd.prog 27 #[.int .i64 n] w fun e w' => e = .returned (.string (dB n)) ∧ Below w.heap.size w w' := impl_Decimal_any n w (by omega) (by omega) ht
theorem decS (n : Int) (w : World) (h0 : 0 ≤ n) (h1 : n ≤ 100000) : Calls Tryd.prog 11 #[.int .i64 n] w fun e w' => e = .returned (.string (dB n)) ∧ Below w.heap.size w w' := spec_Decimal_any n w (by omega) (by omega)
theorem flaI (b : Int) (w : World) (hN : Named w) : Calls Tryd.prog 38 #[.int .i64 b] w fun e w' => e = .returned (.string (fB b)) ∧ Below w.heap.size w w' := impl_FlagsText_any b w hN
theorem flaS (b : Int) (w : World) : Calls Tryd.prog 12 #[.int .i64 b] w fun e w' => e = .returned (.string (fB b)) ∧ Below w.heap.size w w' := spec_FlagsText_any b w
theorem setIt (l : List Rg) (v : Value) (w : World) (hs : l.length ≤ 1048576) (h : ReadO w v l) (ht : Pow w) : Calls Tryd.prog 29 #[v] w fun e w' => e = .returned (.string (sB l)) ∧ Below w.heap.size w w' := impl_SetText_any l v w hs h ht
theorem setSt (l : List Rg) (v : Value) (B : Nat) (w : World) (hs : l.length ≤ 1048576) (h : OwnR B w v l) : Calls Tryd.prog 13 #[v] w fun e w' => e = .returned (.string (sB l)) ∧ Below w.heap.size w w' := spec_SetText_any l v w hs h.read
end Go.Proofs.YtgdihceikhkddaaDoor
