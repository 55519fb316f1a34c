/- Flags: the specification's l06Names, FlagsText, l06Bit. -/
import Derived.Test.YtkjlponggednoacFlagS
import Derived.Deep.AppendLies
namespace Go.Proofs.Ytkjlponggednoac
open Go.RowKit
open Plain
set_option linter.unusedVariables false

namespace Plain
theorem word_on (s n : List UInt8) (h : s ≠ []) : (⟨s.toArray⟩ : ByteArray) ++ ⟨#[32]⟩ ++ ⟨n.toArray⟩ = ⟨(wordOn s n).toArray⟩ := by
  rw [show (⟨#[32]⟩ : ByteArray) = ⟨([32] : List UInt8).toArray⟩ from rfl, ByteArray.mk_append_mk, ByteArray.mk_append_mk, wordOn, if_neg h]
  congr 2
  simp
theorem shut_on (s : List UInt8) : (⟨#[40]⟩ : ByteArray) ++ ⟨s.toArray⟩ ++ ⟨#[41]⟩ = ⟨(40 :: s ++ [41]).toArray⟩ := by
  rw [show (⟨#[40]⟩ : ByteArray) = ⟨([40] : List UInt8).toArray⟩ from rfl, show (⟨#[41]⟩ : ByteArray) = ⟨([41] : List UInt8).toArray⟩ from rfl, ByteArray.mk_append_mk, ByteArray.mk_append_mk]
  rfl
theorem word_len (s n : List UInt8) (h : n.length ≤ 8) : (wordOn s n).length ≤ s.length + 9 := by
  unfold wordOn
  split
  · omega
  · simp; omega
theorem flTo_len (b : Int) : ∀ k, k ≤ 5 → (flTo b k).length ≤ 9 * k := by
  intro k
  induction k with
  | zero => intro _; simp [flTo]
  | succ k ih =>
    intro hk
    have i := ih (by omega)
    have hn : (namesL[k]?.getD []).length ≤ 8 := by
      rcases (show k = 0 ∨ k = 1 ∨ k = 2 ∨ k = 3 ∨ k = 4 by omega) with rfl | rfl | rfl | rfl | rfl <;> decide
    have := word_len (flTo b k) _ hn
    rw [flTo]
    split <;> omega
end Plain

namespace Plain
def bitFrom (t : List UInt8) : Nat → Int
  | 0 => if t = seenL then 1 else if t = answL then 2 else if t = flagL then 4 else if t = deleL then 8 else if t = drafL then 16 else 0
  | 1 => if t = answL then 2 else if t = flagL then 4 else if t = deleL then 8 else if t = drafL then 16 else 0
  | 2 => if t = flagL then 4 else if t = deleL then 8 else if t = drafL then 16 else 0
  | 3 => if t = deleL then 8 else if t = drafL then 16 else 0
  | 4 => if t = drafL then 16 else 0
  | _ => 0
end Plain

end Go.Proofs.Ytkjlponggednoac
