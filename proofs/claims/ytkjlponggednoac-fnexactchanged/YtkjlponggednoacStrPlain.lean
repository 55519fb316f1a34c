/- Plain facts on rows of strings and on marks. Nothing of the program stands here. -/
import Derived.Test.YtkjlponggednoacDecPlain
namespace Go.Proofs.Ytkjlponggednoac.Plain
open Go.RowKit

/-- Texts as values. -/
def strs (l : List (List UInt8)) : List Value := l.map fun x => Value.string ⟨x.toArray⟩
theorem strs_length (l : List (List UInt8)) : (strs l).length = l.length := by simp [strs]
theorem strs_append (a b : List (List UInt8)) : strs (a ++ b) = strs a ++ strs b := by simp [strs]

/-- The text of a mark. -/
def mkL (k : Nat) : List UInt8 := 109 :: dz k
theorem mkL_len {k : Nat} (h : k ≤ 9223372036854775808) : (mkL k).length ≤ 21 := by
  have := dz_len h
  simp [mkL]; omega
/-- n marks, from k0 on. -/
def marksL (k0 n : Nat) : List (List UInt8) := (List.range n).map fun i => mkL (k0 + i)
theorem marksL_length (k0 n : Nat) : (marksL k0 n).length = n := by simp [marksL]
theorem marksL_succ (k0 n : Nat) : marksL k0 (n + 1) = marksL k0 n ++ [mkL (k0 + n)] := by simp [marksL, List.range_succ]
theorem marksL_get {k0 n i : Nat} (h : i < n) : (marksL k0 n)[i]? = some (mkL (k0 + i)) := by
  unfold marksL; rw [List.getElem?_map, List.getElem?_range h]; rfl
/-- The first i are marks; the rest is as it was. -/
def markedL (k0 : Nat) (l : List (List UInt8)) (i : Nat) : List (List UInt8) := marksL k0 i ++ l.drop i
theorem markedL_zero (k0 : Nat) (l : List (List UInt8)) : markedL k0 l 0 = l := by simp [markedL, marksL]
theorem markedL_all {k0 : Nat} {l : List (List UInt8)} : markedL k0 l l.length = marksL k0 l.length := by simp [markedL]
theorem markedL_length {k0 i : Nat} {l : List (List UInt8)} (h : i ≤ l.length) : (markedL k0 l i).length = l.length := by
  simp [markedL, marksL_length]; omega
theorem markedL_set {k0 i : Nat} {l : List (List UInt8)} (h : i < l.length) : (strs (markedL k0 l i)).set i (.string ⟨(mkL (k0 + i)).toArray⟩) = strs (markedL k0 l (i + 1)) := by
  unfold markedL
  rw [strs_append, strs_append, marksL_succ, strs_append, List.drop_eq_getElem_cons h]
  rw [List.set_append_right _ _ (by rw [strs_length, marksL_length]; omega), strs_length, marksL_length, Nat.sub_self, List.append_assoc]
  simp only [strs, List.map_cons, List.set_cons_zero, List.map_nil, List.cons_append, List.nil_append]

theorem DecInv.mark {N : Nat} {suf : List UInt8} (h : DecInv N 0 suf) : suf = dz N := by
  have := h.1
  rw [dz_zero] at this
  simpa using this.symm
theorem fig_10 (m : Nat) : ((fig (m % 10)).toNat : Int) = 48 + (m : Int) % 10 := by
  rw [fig_low (by omega)]; omega
end Go.Proofs.Ytkjlponggednoac.Plain
