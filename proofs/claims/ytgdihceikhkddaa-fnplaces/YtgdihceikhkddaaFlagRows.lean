/- Flags that change in their row, one mail after the other, plainly. -/
import Derived.Test.YtgdihceikhkddaaFlagsFit
import Derived.Test.YtgdihceikhkddaaRowStore
import Derived.Test.YtgdihceikhkddaaIntRow
namespace Go.Proofs.Ytgdihceikhkddaa
open Go.RowKit
set_option linter.unusedVariables false

theorem g_alloc {w W : World} {r : Option Nat} (h : w.grownBy W r) (o : Obj) : w.grownBy (W.alloc o) r := g_then h ((Below.refl _ _).alloc (Nat.le_refl _) o)
theorem g_drew {w W : World} {r : Option Nat} (h : w.grownBy W r) : w.grownBy W.drew r := ⟨h.os, h.tape, h.output, h.size, h.block⟩
theorem g_new {w W W2 : World} {r r2 : Option Nat} (h : w.grownBy W r) (hg : W.grownBy W2 r2) (hr : ∀ k, r2 = some k → w.heap.size ≤ k) : w.grownBy W2 r :=
 ⟨hg.os.trans h.os, hg.tape.trans h.tape, hg.output.trans h.output, Nat.le_trans h.size hg.size, fun k hk hne => (hg.block k (Nat.lt_of_lt_of_le hk h.size) (fun e => by have := hr k e.symm; omega)).trans (h.block k hk hne)⟩
theorem g_setnew {w W : World} {r : Option Nat} {g j : Nat} (h : w.grownBy W r) (hg : w.heap.size ≤ g) (u : Value) : w.grownBy (W.setCell ⟨g, j, none⟩ u) r :=
 g_new h (g_store (g_self W (some g)) u) (fun k hk => by cases hk; exact hg)
namespace Plain
end Plain
end Go.Proofs.Ytgdihceikhkddaa
