/- Mails: the specification's l07Line, BodyOf. -/
import Derived.Test.YthnofckkehephaaGreatDoorFlagA
namespace Go.Proofs.YthnofckkehephaaGreatDoor
open Go.RowKit
open Plain
set_option linter.unusedVariables false

namespace Plain
theorem body_on : ∀ (p r : List UInt8), (∀ b ∈ p, b ≠ 10) → bodyFrom false (p ++ 10 :: r) = bodyFrom true r := by
  intro p
  induction p with
  | nil => intro r _; rfl
  | cons b p ih =>
    intro r h
    rw [List.cons_append, bodyFrom, if_neg (h b (by simp)), ih r (fun x hx => h x (by simp [hx]))]
theorem body_line {p : List UInt8} (r : List UInt8) (h : ∀ b ∈ p, b ≠ 10) (hp : p ≠ []) : bodyFrom true (p ++ 10 :: r) = bodyFrom true r := by
  cases p with
  | nil => exact absurd rfl hp
  | cons b p => rw [List.cons_append, bodyFrom, if_neg (h b (by simp)), body_on p r (fun x hx => h x (by simp [hx]))]
theorem body_last : ∀ (p : List UInt8) (s : Bool), (∀ b ∈ p, b ≠ 10) → bodyFrom s p = [] := by
  intro p
  induction p with
  | nil => intro s _; rfl
  | cons b p ih =>
    intro s h
    rw [bodyFrom, if_neg (h b (by simp)), ih false (fun x hx => h x (by simp [hx]))]
theorem seg_ne {l : List UInt8} {a i : Nat} (h : a < i) (hi : i ≤ l.length) : seg l a i ≠ [] := by
  intro e
  have : (seg l a i).length = 0 := by rw [e]; rfl
  unfold seg at this
  rw [List.length_drop, List.length_take] at this
  omega
end Plain

namespace Plain
theorem line_cut {l : List UInt8} {a i : Nat} (h : a ≤ i) (hi : l[i]? = some 10) : l.drop a = seg l a i ++ 10 :: l.drop (i + 1) := by
  rw [drop_seg h, drop_eq hi]
theorem line_end {l : List UInt8} {a : Nat} (h : a ≤ l.length) : l.drop a = seg l a l.length := by
  rw [drop_seg h, List.drop_length, List.append_nil]
theorem cut_size {s : ByteArray} {a i : Nat} (h : a ≤ i) (hi : i ≤ s.size) : (s.extract a i).size = i - a := by rw [ByteArray.size_extract]; omega
theorem cut_full {s : ByteArray} {a i : Nat} (h : a < i) (hi : i ≤ s.size) : (s.extract a i).toList.isEmpty = false := by
  rw [ByteArray.toList_eq]
  have := cut_size (s := s) (Nat.le_of_lt h) hi
  cases hl : (s.extract a i).data.toList with
  | nil =>
    have h2 : (s.extract a i).data.toList.length = 0 := by rw [hl]; rfl
    have h3 : (s.extract a i).size = 0 := h2
    omega
  | cons x r => rfl
theorem cut_none (s : ByteArray) (a : Nat) : s.extract a a = ⟨#[]⟩ := by
  rw [cut_bytes]
  simp
end Plain

end Go.Proofs.YthnofckkehephaaGreatDoor
