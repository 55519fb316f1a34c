/- What two sets have: the specification's l05Two, SetJoin, SetMeet. -/
import Derived.Test.YtkmphclmealkeaaSetRuns
namespace Go.Proofs.Ytkmphclmealkeaa
open Go.RowKit
open Plain
set_option linter.unusedVariables false

namespace Plain
def twoTo (a b : List Rg) (both : Bool) (n i : Nat) : Bool := if i < n then twoB a b both i else bitsOf a i
theorem twoTo_zero (a b : List Rg) (both : Bool) : twoTo a b both 0 = bitsOf a := by funext i; unfold twoTo; rw [if_neg (by omega)]
theorem twoTo_step (a b : List Rg) (both : Bool) (n : Nat) (c : Bool) (h : c = twoB a b both n) : setBit (twoTo a b both n) n c = twoTo a b both (n + 1) := by
  funext i
  unfold setBit twoTo
  by_cases e : i = n
  · subst e; rw [if_pos rfl, if_pos (by omega), h]
  · rw [if_neg e]
    by_cases h2 : i < n
    · rw [if_pos h2, if_pos (by omega)]
    · rw [if_neg h2, if_neg (by omega)]
theorem twoTo_all (a b : List Rg) (both : Bool) : bitsRow (twoTo a b both 10001) = bitsRow (twoB a b both) := bitsRow_congr fun i hi => by unfold twoTo; rw [if_pos hi]
theorem twoTo_at (a b : List Rg) (both : Bool) (n : Nat) : twoTo a b both n n = bitsOf a n := by unfold twoTo; rw [if_neg (by omega)]
theorem twoB_zero {a b : List Rg} {both : Bool} (h1 : okS a = true) (h2 : okS b = true) : twoB a b both 0 = false := by
  unfold twoB
  rw [bitsOf_zero (okS_parts h1).1, bitsOf_zero (okS_parts h2).1]
  cases both <;> rfl
theorem twoV_in {a b : List Rg} {both : Bool} (h1 : okS a = true) (h2 : okS b = true) : twoV a b both = setV (twoB a b both) := if_pos ⟨h1, h2⟩
theorem twoV_no {a b : List Rg} {both : Bool} (h : ¬ (okS a = true ∧ okS b = true)) : twoV a b both = ([], false) := if_neg h
end Plain

end Go.Proofs.Ytkmphclmealkeaa
