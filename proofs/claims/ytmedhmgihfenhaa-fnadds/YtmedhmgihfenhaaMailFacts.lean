/- What drawn mails and subjects are, plainly. -/
import Derived.Test.YtmedhmgihfenhaaPlainA
namespace Go.Proofs.Ytmedhmgihfenhaa.Plain
open Go.RowKit
set_option linter.unusedVariables false

/-- The texts of drawn mails: a subject, who it is from, what is below. -/
def subjT : List (List UInt8) := [[83, 117, 98, 106, 101, 99, 116, 58, 32, 104, 101, 108, 108, 111, 10], [83, 117, 98, 106, 101, 99, 116, 58, 32, 82, 101, 58, 32, 104, 101, 108, 108, 111, 10], [83, 117, 98, 106, 101, 99, 116, 58, 32, 111, 116, 104, 101, 114, 10], [83, 117, 98, 106, 101, 99, 116, 58, 32, 102, 119, 100, 58, 32, 82, 69, 58, 32, 32, 72, 101, 108, 108, 111, 32, 10], [83, 117, 98, 106, 101, 99, 116, 58, 10], [83, 117, 98, 106, 101, 99, 116, 58, 32, 110, 101, 119, 115, 10]]
def fromT : List (List UInt8) := [[], [70, 114, 111, 109, 58, 32, 97, 110, 110, 10], [70, 114, 111, 109, 58, 32, 98, 111, 98, 10]]
def restT : List (List UInt8) := [[], [10, 116, 101, 120, 116], [10, 98, 111, 100, 121, 32, 111, 102, 32, 105, 116, 10], [10], [10, 97, 10, 10, 98]]
def mailT : List (List UInt8) := subjT.flatMap fun a => fromT.flatMap fun b => restT.map fun d => a ++ b ++ d
theorem mail_mem {a b d : List UInt8} (ha : a ∈ subjT) (hb : b ∈ fromT) (hd : d ∈ restT) : a ++ b ++ d ∈ mailT :=
  List.mem_flatMap.2 ⟨a, ha, List.mem_flatMap.2 ⟨b, hb, List.mem_map.2 ⟨d, hd, rfl⟩⟩⟩
def upSubj : List UInt8 := [83, 85, 66, 74, 69, 67, 84]
def loSubj : List UInt8 := [115, 117, 98, 106, 101, 99, 116]
def noHead : List UInt8 := [110, 111, 116, 104, 105, 110, 103]
theorem mail_facts : ∀ t ∈ mailT, (decide (1 ≤ t.length) && decide (t.length ≤ 100)) = true ∧ mailOkL t = true ∧ (headL t upSubj).2 = true ∧ headL t upSubj = headL t loSubj ∧ (headL t noHead).2 = false ∧ (bodyL t).length ≤ t.length ∧ t.drop (t.length - (bodyL t).length) = bodyL t := by decide +kernel
/-- The texts of drawn subjects: of what is left, and how often something is put ahead. -/
def baseT : List (List UInt8) := [[104, 101, 108, 108, 111], [97, 32, 98], [110, 101, 119, 115, 32, 111, 102, 32, 105, 116], []]
def aheadT : List (List UInt8) := [[82, 101, 58, 32], [102, 119, 100, 58], [32, 82, 69, 58, 32, 32]]
def putT : Nat → List UInt8 → List (List UInt8)
  | 0, s => [s]
  | k + 1, s => aheadT.flatMap fun a => (putT k s).map fun t => a ++ t
theorem put_mem {k : Nat} {s a t : List UInt8} (ha : a ∈ aheadT) (ht : t ∈ putT k s) : a ++ t ∈ putT (k + 1) s :=
  List.mem_flatMap.2 ⟨a, ha, List.mem_map.2 ⟨t, ht, rfl⟩⟩
theorem base_facts : ∀ k : Fin 4, ∀ s ∈ baseT, ∀ t ∈ putT k.val s, baseL t = s ∧ t.length ≤ 60 := by decide +kernel
theorem base_same : ∀ s ∈ baseT, baseL s = s ∧ s.length ≤ 20 := by decide +kernel
theorem base_hello : baseL [72, 101, 108, 108, 111] = [104, 101, 108, 108, 111] ∧ baseL [114, 101, 97, 108] = [114, 101, 97, 108] := by decide +kernel
theorem part_two (t : List UInt8) (k : Nat) (h : k ≤ t.length) : partL t 0 k ++ partL t k t.length = t := by
  rw [partL_in (by omega), partL_in (by omega)]
  simp only [Int.toNat_natCast, Int.toNat_zero, List.drop_zero]
  rw [List.take_of_length_le (l := t.drop k) (by simp), List.take_append_drop]
end Go.Proofs.Ytmedhmgihfenhaa.Plain
