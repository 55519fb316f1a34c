/- Mails: the specification's HeadOf. -/
import Derived.Test.YthnofckkehephaaGreatDoorLineS
namespace Go.Proofs.YthnofckkehephaaGreatDoor
open Go.RowKit
open Plain
set_option linter.unusedVariables false

namespace Plain
theorem head_stop (name : List UInt8) (r : List (List UInt8)) : headIn name ([] :: r) = ([], false) := by rw [headIn, if_pos rfl]
theorem head_hit {name p : List UInt8} {r : List (List UInt8)} (hp : p ≠ []) (h : name.length < p.length ∧ (p.take name.length).map lowB = name.map lowB ∧ p[name.length]? = some 58) : headIn name (p :: r) = (trimL (p.drop (name.length + 1)), true) := by
  rw [headIn, if_neg hp, if_pos h]
theorem head_miss {name p : List UInt8} {r : List (List UInt8)} (hp : p ≠ []) (h : ¬ (name.length < p.length ∧ (p.take name.length).map lowB = name.map lowB ∧ p[name.length]? = some 58)) : headIn name (p :: r) = headIn name r := by
  rw [headIn, if_neg hp, if_neg h]
theorem head_end (name : List UInt8) : headIn name (cutsL 10 []) = ([], false) := head_stop name []
end Plain

namespace Plain
theorem ext_head (u : ByteArray) (n : Nat) : (u.extract 0 n).data.toList = u.data.toList.take n := by
  rw [Lib.extract_data]; simp
theorem ext_tail (u : ByteArray) (n : Nat) : (u.extract n u.size).data.toList = u.data.toList.drop n := by
  rw [Lib.extract_data, List.take_of_length_le (by rw [List.length_drop]; exact Nat.le_refl _)]
theorem ext_line (s : ByteArray) (a i : Nat) : (s.extract a i).data.toList = seg s.data.toList a i := by
  rw [Lib.extract_data, seg, List.drop_take]
end Plain

end Go.Proofs.YthnofckkehephaaGreatDoor
