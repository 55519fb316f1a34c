/- Flags: what the laws ask of the program's own functions; plain facts on two sets of flags. -/
import Derived.Test.YtanapiaobpoebaaDoorFlagA
import Derived.Test.YtanapiaobpoebaaDoorDrawKit
namespace Go.Proofs.YtanapiaobpoebaaDoor
open Go.RowKit
open Plain
set_option linter.unusedVariables false

namespace Plain
theorem add_bit : ∀ (a b : Fin 32) (k : Fin 5), afterV a.val 2 b.val / 2 ^ k.val % 2 = 1 ↔ ((a.val : Int) / 2 ^ k.val % 2 = 1 ∨ (b.val : Int) / 2 ^ k.val % 2 = 1) := by decide +kernel
theorem take_bit : ∀ (a b : Fin 32) (k : Fin 5), afterV a.val 3 b.val / 2 ^ k.val % 2 = 1 ↔ ((a.val : Int) / 2 ^ k.val % 2 = 1 ∧ ¬ (b.val : Int) / 2 ^ k.val % 2 = 1) := by decide +kernel
theorem after_range : ∀ (a b : Fin 32), (0 ≤ afterV a.val 2 b.val ∧ afterV a.val 2 b.val ≤ 31) ∧ (0 ≤ afterV a.val 3 b.val ∧ afterV a.val 3 b.val ≤ 31) := by decide +kernel
end Plain
structure FlagsI (w : World) : Prop where
  ok : ∀ (b : Int) (W : World), i64R b → Below w.heap.size w W → Calls Tryd.prog 15 #[.int .i64 b] W fun e w' => e = .returned (.bool (flOk b)) ∧ Below W.heap.size W w'
  text : ∀ (b : Int) (W : World), i64R b → Below w.heap.size w W → Calls Tryd.prog 10 #[.int .i64 b] W fun e w' => e = .returned (.string ⟨(flagsL b).toArray⟩) ∧ Below W.heap.size W w'
  read : ∀ (s : ByteArray) (W : World), s.size ≤ 1048576 → Below w.heap.size w W → Calls Tryd.prog 7 #[.string s] W fun e w' => e = .returned (.tuple #[.int .i64 (readF s.data.toList).1, .bool (readF s.data.toList).2]) ∧ Below W.heap.size W w'
  after : ∀ (old how bits : Int) (W : World), i64R old → i64R how → i64R bits → Below w.heap.size w W → Calls Tryd.prog 11 #[.int .i64 old, .int .i64 how, .int .i64 bits] W fun e w' => e = .returned (.int .i64 (afterV old how bits)) ∧ Below W.heap.size W w'
end Go.Proofs.YtanapiaobpoebaaDoor
