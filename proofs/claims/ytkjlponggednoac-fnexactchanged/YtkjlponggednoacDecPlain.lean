/- Plain facts on decimal figures. Nothing of the program stands here. -/
import Derived.Test.YtkjlponggednoacHexPlain
import Derived.Lib.ItoaLen
namespace Go.Proofs.Ytkjlponggednoac.Plain
open Go.RowKit

/-- The figures of a number; none of 0. -/
def dz (m : Nat) : List UInt8 := if m = 0 then [] else Lib.decDigits m

theorem dz_zero : dz 0 = [] := rfl
theorem dz_pos {m : Nat} (h : m ≠ 0) : dz m = Lib.decDigits m := if_neg h
theorem fig_dec {x : Nat} (h : x < 10) : fig x = UInt8.ofNat (48 + x) := if_pos h
theorem dz_step {m : Nat} (h : m ≠ 0) : dz m = dz (m / 10) ++ [fig (m % 10)] := by
  rw [dz_pos h, fig_dec (by omega)]
  by_cases h10 : m < 10
  · rw [Lib.decDigits, dif_pos h10, show m / 10 = 0 from by omega, dz_zero, show m % 10 = m from by omega]; rfl
  · rw [Lib.decDigits, dif_neg h10, dz_pos (by omega)]
theorem dz_len {m : Nat} (h : m ≤ 9223372036854775808) : (dz m).length ≤ 20 := by
  unfold dz
  split
  · simp
  · rw [Lib.decDigits_length]; exact Lib.nDigits_le20 m (by omega)

/-- Behind some rounds: what is left, and what is written. -/
def DecInv (N m : Nat) (suf : List UInt8) : Prop := dz N = dz m ++ suf ∧ suf.length ≤ 20
theorem DecInv.start (N : Nat) : DecInv N N [] := ⟨by simp, by simp⟩
theorem DecInv.step {N m : Nat} {suf : List UInt8} (hN : N ≤ 9223372036854775808) (h : DecInv N m suf) (hm : m ≠ 0) : DecInv N (m / 10) (fig (m % 10) :: suf) := by
  have e : dz N = dz (m / 10) ++ (fig (m % 10) :: suf) := by rw [h.1, dz_step hm]; simp
  refine ⟨e, ?_⟩
  have := dz_len hN
  rw [e] at this
  simp only [List.length_append] at this
  omega
theorem DecInv.done {N : Nat} {suf : List UInt8} (h : DecInv N 0 suf) (hN : N ≠ 0) : suf = Lib.decDigits N := by
  have := h.1
  rw [dz_pos hN, dz_zero] at this
  simpa using this.symm

theorem itoa_nat {N : Nat} : Lib.itoa (N : Int) = Lib.decDigits N := by
  simp [Lib.itoa]
theorem itoa_neg {N : Nat} (h : N ≠ 0) : Lib.itoa (-(N : Int)) = 45 :: Lib.decDigits N := by
  unfold Lib.itoa
  rw [if_pos (by omega)]
  simp
theorem tmod_neg (m : Nat) : (-(m : Int)).tmod 10 = -((m % 10 : Nat) : Int) := by
  rw [Int.neg_tmod, Int.tmod_eq_emod_of_nonneg (by omega)]; rfl
theorem tdiv_neg (m : Nat) : (-(m : Int)).tdiv 10 = -((m / 10 : Nat) : Int) := by
  rw [Int.neg_tdiv, Int.tdiv_eq_ediv_of_nonneg (by omega)]; rfl
end Go.Proofs.Ytkjlponggednoac.Plain
