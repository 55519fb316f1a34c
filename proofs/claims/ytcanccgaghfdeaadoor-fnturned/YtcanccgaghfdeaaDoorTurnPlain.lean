/- Plain facts on sealed texts: a sealed text is opened as it was sealed; with one byte turned it is not. -/
import Derived.Test.YtcanccgaghfdeaaDoorUnseal
namespace Go.Proofs.YtcanccgaghfdeaaDoor.Plain

theorem four_inj {x y : Nat} (hx : x < 4294967296) (hy : y < 4294967296) (h : four x = four y) : x = y := by
  simp only [four, List.cons.injEq, and_true] at h
  obtain ⟨h1, h2, h3, h4⟩ := h
  have e1 := congrArg UInt8.toNat h1
  have e2 := congrArg UInt8.toNat h2
  have e3 := congrArg UInt8.toNat h3
  have e4 := congrArg UInt8.toNat h4
  simp only [UInt8.toNat_ofNat', Nat.reducePow] at e1 e2 e3 e4
  omega
theorem four_len (x : Nat) : (four x).length = 4 := rfl
theorem sealed_len (l : List UInt8) : (sealedL l).length = l.length + 4 := by simp [sealedL, four_len]

theorem uns_parts {l f : List UInt8} (hf : f.length = 4) (hl : l.length ≤ 20000) : unsOk (l ++ f) = (f == four (sumOf l)) := by
  have e : (l ++ f).length = l.length + 4 := by simp [hf]
  rw [unsOk, e, decide_eq_true (show 4 ≤ l.length + 4 by omega), decide_eq_true (show l.length + 4 ≤ 20004 by omega), Nat.add_sub_cancel, List.drop_left, List.take_left]
  rfl
theorem uns_sealed (l : List UInt8) (hl : l.length ≤ 20000) : unsOk (sealedL l) = true := by
  rw [sealedL, uns_parts (four_len _) hl]; simp

theorem turned_no (l : List UInt8) (hl : l.length ≤ 20000) (i : Nat) (hi : i < l.length + 4) (b : UInt8) (hb : (sealedL l)[i]? ≠ some b) : unsOk ((sealedL l).set i b) = false := by
  unfold sealedL at hb ⊢
  by_cases h : i < l.length
  · rw [List.set_append_left _ _ h, uns_parts (four_len _) (by simpa using hl)]
    rw [List.getElem?_append_left h, List.getElem?_eq_getElem h] at hb
    apply beq_false_of_ne
    intro e
    have e2 := four_inj (sumOf_lt _) (sumOf_lt _) e
    have e3 : l = l.take i ++ l[i] :: l.drop (i + 1) := by rw [List.getElem_cons_drop, List.take_append_drop]
    rw [List.set_eq_take_append_cons_drop, if_pos h] at e2
    rw [sumOf, sumOf] at e2
    conv at e2 => lhs; rw [e3]
    exact hb (congrArg some (sumL_other (by decide) _ _ _ _ e2))
  · have h' : l.length ≤ i := by omega
    rw [List.set_append_right _ _ h', uns_parts (by simp [four_len]) hl]
    rw [List.getElem?_append_right h'] at hb
    apply beq_false_of_ne
    intro e
    have hj : i - l.length < (four (sumOf l)).length := by rw [four_len]; omega
    exact hb (by rw [← e, List.getElem?_set_self hj])

/-- A byte turned by a number from 1 to 255 is another. -/
theorem turned_byte {b k : Nat} (hb : b < 256) (hk : k < 256) (h0 : 0 < k) : b ^^^ k < 256 ∧ b ^^^ k ≠ b := by
  have h1 : b ^^^ k < 2 ^ 8 := Nat.xor_lt_two_pow (by omega) (by omega)
  refine ⟨by omega, fun e => ?_⟩
  have : k = 0 := xor_cancel_left (a := b) (by rw [e, Nat.xor_zero])
  omega
end Go.Proofs.YtcanccgaghfdeaaDoor.Plain
