/- Flags: what the laws ask of the program's own functions; plain facts on two sets of flags. -/
import Derived.Test.YtmaoadgpcejepaaDoorFlagReadS
import Derived.Test.YtmaoadgpcejepaaDoorDrawPlaces
namespace Go.Proofs.YtmaoadgpcejepaaDoor
open Go.RowKit
open Plain
set_option linter.unusedVariables false

namespace Plain
def i64R (z : Int) : Prop := -9223372036854775808 ≤ z ∧ z ≤ 9223372036854775807
theorem i64R_small {z : Int} (h0 : 0 ≤ z) (h1 : z ≤ 1000) : i64R z := ⟨by omega, by omega⟩
theorem add_bit : ∀ (a b : Fin 32) (k : Fin 5), afterV a.val 2 b.val / 2 ^ k.val % 2 = 1 ↔ ((a.val : Int) / 2 ^ k.val % 2 = 1 ∨ (b.val : Int) / 2 ^ k.val % 2 = 1) := by decide +kernel
theorem take_bit : ∀ (a b : Fin 32) (k : Fin 5), afterV a.val 3 b.val / 2 ^ k.val % 2 = 1 ↔ ((a.val : Int) / 2 ^ k.val % 2 = 1 ∧ ¬ (b.val : Int) / 2 ^ k.val % 2 = 1) := by decide +kernel
theorem after_range : ∀ (a b : Fin 32), (0 ≤ afterV a.val 2 b.val ∧ afterV a.val 2 b.val ≤ 31) ∧ (0 ≤ afterV a.val 3 b.val ∧ afterV a.val 3 b.val ≤ 31) := by decide +kernel
end Plain
structure FlagsI (w : World) : Prop where
  ok : ∀ (b : Int) (W : World), i64R b → Below w.heap.size w W → Calls Tryd.prog 16 #[.int .i64 b] W fun e w' => e = .returned (.bool (flOk b)) ∧ Below W.heap.size W w'
  text : ∀ (b : Int) (W : World), i64R b → Below w.heap.size w W → Calls Tryd.prog 10 #[.int .i64 b] W fun e w' => e = .returned (.string ⟨(flagsL b).toArray⟩) ∧ Below W.heap.size W w'
  read : ∀ (s : ByteArray) (W : World), s.size ≤ 1048576 → Below w.heap.size w W → Calls Tryd.prog 9 #[.string s] W fun e w' => e = .returned (.tuple #[.int .i64 (readF s.data.toList).1, .bool (readF s.data.toList).2]) ∧ Below W.heap.size W w'
  after : ∀ (old how bits : Int) (W : World), i64R old → i64R how → i64R bits → Below w.heap.size w W → Calls Tryd.prog 11 #[.int .i64 old, .int .i64 how, .int .i64 bits] W fun e w' => e = .returned (.int .i64 (afterV old how bits)) ∧ Below W.heap.size W w'
theorem bigF_any (len cap : Nat) (a : Option Addr) (w : World) (hl : len ≤ 9223372036854775807) :
    Calls Tryd.prog 7 #[.slice a len cap] w fun e w' => e = .returned (.bool (decide ((1048576 : Int) < len))) ∧ w' = w := by
  go_enter Tryd.func7, Tryd.ntmps7
  go_wp2
  go_ret
  exact ⟨rfl, rfl⟩
/-- Two places. -/
theorem placesF_any (B len cap : Nat) (a : Option Addr) (w : World) (ha : Arg B w a len) (hB : B ≤ w.heap.size) :
    Calls Tryd.prog 8 #[.slice a len cap] w fun e w' => ∃ g pc p0 p1 : Nat, p0 < 10000 ∧ p1 < 10000 ∧ e = .returned (.slice (some ⟨g, 0, none⟩) 12 pc) ∧ 
      w'.cell? ⟨g, 0, none⟩ = some (.int .i64 (p0 : Int)) ∧ w'.cell? ⟨g, 1, none⟩ = some (.int .i64 (p1 : Int)) ∧ Below w.heap.size w w' :=
  (DrawPlaces_any B len cap a w ha hB).mono fun e w' ⟨v, l, h1, h2, h3, h4, h5⟩ => by
    rcases h4.2 with ⟨rfl, h⟩ | ⟨g, pc, cur, rfl, hg, hh, hnc, hcp, hcs, htake⟩
    · cases h
    · match l, h1 with
      | p0 :: p1 :: r, h1 =>
        exact ⟨g, pc, p0, p1, h2 _ (by simp), h2 _ (by simp), h3, h4.cellAt 0 (by decide), h4.cellAt 1 (by decide), h5⟩
end Go.Proofs.YtmaoadgpcejepaaDoor
