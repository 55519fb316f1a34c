/- Mails: the specification's BaseSubject. -/
import Derived.Test.YthnofckkehephaaGreatDoorHeadS
namespace Go.Proofs.YthnofckkehephaaGreatDoor
open Go.RowKit
open Plain
set_option linter.unusedVariables false

namespace Plain
def reL : List UInt8 := [114, 101, 58]
def fwL : List UInt8 := [102, 119, 100, 58]
theorem take_short {u x : List UInt8} {n : Nat} (h : u.length < n) (hx : x.length = n) : u.take n ≠ x := fun e => by
  have := congrArg List.length e
  rw [List.length_take, hx] at this
  omega
theorem base_re {f : Nat} {u : List UInt8} (h : u.take 3 = reL) : baseF (f + 1) u = baseF f (trimL (u.drop 3)) := by rw [baseF]; exact if_pos h
theorem base_fw {f : Nat} {u : List UInt8} (h0 : u.take 3 ≠ reL) (h : u.take 4 = fwL) : baseF (f + 1) u = baseF f (trimL (u.drop 4)) := by rw [baseF]; exact (if_neg h0).trans (if_pos h)
theorem base_no {f : Nat} {u : List UInt8} (h0 : u.take 3 ≠ reL) (h : u.take 4 ≠ fwL) : baseF f u = u := by
  cases f with
  | zero => rfl
  | succ f => rw [baseF]; exact (if_neg h0).trans (if_neg h)
theorem head_test {u : ByteArray} {n : Nat} {x : List UInt8} (h : u.data.toList.take n = x) : ((u.extract 0 n).toList == x) = true := by rw [ByteArray.toList_eq, ext_head, beq_iff_eq]; exact h
theorem head_test_no {u : ByteArray} {n : Nat} {x : List UInt8} (h : u.data.toList.take n ≠ x) : ((u.extract 0 n).toList == x) = false := by rw [ByteArray.toList_eq, ext_head, beq_eq_false_iff_ne]; exact h
end Plain

end Go.Proofs.YthnofckkehephaaGreatDoor
