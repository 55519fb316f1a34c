/- Tombs out of which some go: slices.DeleteFunc at the function that the program hands it. Made by gen_delete.py. -/
import Derived.Test.YtecognggnbopaacDeletePlain
import Derived.Test.YtecognggnbopaacBoxA
import Derived.Test.YtecognggnbopaacBoxNameS
namespace Go.Proofs.Ytecognggnbopaac
open Go.RowKit
open Plain
set_option linter.unusedVariables false
set_option linter.unusedSimpArgs false

theorem zeroTomb (w : World) : (zeroValue 122).run Try.prog w = .ok (.agg #[.int .i64 0, .int .i64 0]) w := by kernel_rfl
theorem rowC_take {α : Type} {enc : α → List Value} {k : Nat} (hk : ∀ a, (enc a).length = k) {l : List α} {i : Nat} (hi : i ≤ l.length) : (rowC enc l).take (i * k) = rowC enc (l.take i) := by
  have e : rowC enc l = rowC enc (l.take i) ++ rowC enc (l.drop i) := by rw [← rowC_append, List.take_append_drop]
  have hl : (rowC enc (l.take i)).length = i * k := by rw [rowC_len hk, List.length_take, Nat.min_eq_left hi]
  rw [e, ← hl, List.take_left']
  rfl
end Go.Proofs.Ytecognggnbopaac
