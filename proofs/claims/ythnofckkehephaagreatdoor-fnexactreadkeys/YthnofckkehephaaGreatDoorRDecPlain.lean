/- Plain facts on decimal figures read back. Nothing of the program stands here. -/
import Derived.Test.YthnofckkehephaaGreatDoorPlainA
namespace Go.Proofs.YthnofckkehephaaGreatDoor.Plain
open Go.RowKit

def decVal (l : List UInt8) : Nat := l.foldl (fun n b => 10 * n + (b.toNat - 48)) 0

theorem decVal_snoc (l : List UInt8) (b : UInt8) : decVal (l ++ [b]) = 10 * decVal l + (b.toNat - 48) := by simp [decVal]
theorem decVal_mono (l r : List UInt8) : decVal l ≤ decVal (l ++ r) := by
  induction r generalizing l with
  | nil => simp
  | cons b r ih =>
    have h1 := ih (l ++ [b])
    rw [decVal_snoc, List.append_assoc] at h1
    have : l ++ ([b] ++ r) = l ++ b :: r := by simp
    rw [this] at h1
    omega
def isD (x : Nat) : Bool := decide (48 ≤ x ∧ x ≤ 57)
theorem isD_iff (x : Nat) : isD x = true ↔ 48 ≤ x ∧ x ≤ 57 := by simp [isD]

theorem dig_nat {x : Nat} (h : x < 10) : (UInt8.ofNat (48 + x)).toNat = 48 + x := by rw [UInt8.toNat_ofNat']; omega
theorem val_dec (n : Nat) : decVal (Lib.decDigits n) = n ∧ ∀ b ∈ Lib.decDigits n, isD b.toNat = true := by
  induction n using Nat.strongRecOn with
  | _ n ih =>
    by_cases h : n < 10
    · rw [Lib.decDigits, dif_pos h]
      refine ⟨?_, ?_⟩
      · show 10 * 0 + ((UInt8.ofNat (48 + n)).toNat - 48) = n
        rw [dig_nat h]; omega
      · intro b hb
        simp only [List.mem_cons, List.not_mem_nil, or_false] at hb
        subst hb
        rw [dig_nat h, isD_iff]; omega
    · have h2 := ih (n / 10) (by omega)
      rw [Lib.decDigits, dif_neg h]
      refine ⟨?_, ?_⟩
      · rw [decVal_snoc, h2.1, dig_nat (by omega)]; omega
      · intro b hb
        rcases List.mem_append.1 hb with hb | hb
        · exact h2.2 b hb
        · simp only [List.mem_cons, List.not_mem_nil, or_false] at hb
          subst hb
          rw [dig_nat (by omega), isD_iff]; omega

def okD (l : List UInt8) : Prop := decVal l ≤ 1000000000 ∧ Lib.decDigits (decVal l) = l
/-- The answer. -/
def ansD (l : List UInt8) : Value := if decVal l ≤ 1000000000 ∧ Lib.decDigits (decVal l) = l then .tuple #[.int .i64 (decVal l : Int), .bool true] else .tuple #[.int .i64 0, .bool false]

theorem ans_yes {l : List UInt8} {n : Nat} (h1 : decVal l = n) (h2 : ¬ 1000000000 < n) (h3 : Lib.itoa (n : Int) = l) : ansD l = .tuple #[.int .i64 (n : Int), .bool true] := by
  subst h1
  rw [itoa_nat] at h3
  exact if_pos ⟨by omega, h3⟩
theorem ans_no {l : List UInt8} {n : Nat} (h1 : decVal l = n) (h2 : 1000000000 < n ∨ Lib.itoa (n : Int) ≠ l) : ansD l = .tuple #[.int .i64 0, .bool false] := by
  subst h1
  rw [itoa_nat] at h2
  exact if_neg (fun h => by rcases h2 with h2 | h2; omega; exact h2 h.2)
theorem ans_bad {l : List UInt8} {k : Nat} {b : UInt8} (hb : l[k]? = some b) (h : isD b.toNat = false) : ansD l = .tuple #[.int .i64 0, .bool false] :=
  if_neg (fun hh => by
    have hm : b ∈ Lib.decDigits (decVal l) := by rw [hh.2]; exact List.mem_of_getElem? hb
    rw [(val_dec _).2 b hm] at h; cases h)
theorem itoa_bad {l : List UInt8} {k n : Nat} {b : UInt8} (hb : l[k]? = some b) (h : isD b.toNat = false) : Lib.itoa (n : Int) ≠ l := by
  intro e
  rw [itoa_nat] at e
  have hm : b ∈ Lib.decDigits n := by rw [e]; exact List.mem_of_getElem? hb
  rw [(val_dec _).2 b hm] at h; cases h
theorem ans_big {l : List UInt8} {k : Nat} (h : 1000000000 < decVal (l.take k)) : ansD l = .tuple #[.int .i64 0, .bool false] :=
  if_neg (fun hh => by
    have := decVal_mono (l.take k) (l.drop k)
    rw [List.take_append_drop] at this
    omega)
theorem ans_long {l : List UInt8} (h : 10 < l.length) : ansD l = .tuple #[.int .i64 0, .bool false] :=
  if_neg (fun hh => by
    have h1 : l.length = Lib.nDigits (decVal l) := by rw [← Lib.decDigits_length, hh.2]
    have h2 : Lib.nDigits (decVal l) ≤ 10 := by
      by_cases e : decVal l < 1000000000
      · rcases Nat.lt_or_ge 10 (Lib.nDigits (decVal l)) with hc | hc
        · exfalso
          have : ∀ k u : Nat, u < 10 ^ (k + 1) → Lib.nDigits u ≤ k + 1 := by
            intro k
            induction k with
            | zero => intro u hu; rw [Lib.nDigits_small (by simpa using hu)]; omega
            | succ k ih =>
              intro u hu
              by_cases h10 : u < 10
              · rw [Lib.nDigits_small h10]; omega
              · rw [Lib.nDigits_big h10]
                have := ih (u / 10) (by rw [Nat.pow_succ] at hu; omega)
                omega
          have := this 8 (decVal l) (by omega)
          omega
        · exact hc
      · have e2 : decVal l = 1000000000 := by omega
        rw [e2, Lib.nDigits_unique 9 1000000000 (by omega) (by omega)]
        omega
    omega)

/-- Behind some rounds: the number so far; all so far are figures. -/
def DvInv (l : List UInt8) (k n : Nat) : Prop := decVal (l.take k) = n ∧ n < 10 ^ k
theorem DvInv.start (l : List UInt8) : DvInv l 0 0 := ⟨rfl, by simp⟩
theorem DvInv.step {l : List UInt8} {k n : Nat} {b : UInt8} (h : DvInv l k n) (hb : l[k]? = some b) (hd : isD b.toNat = true) : DvInv l (k + 1) (10 * n + (b.toNat - 48)) := by
  have hk : k < l.length := (List.getElem?_eq_some_iff.1 hb).1
  have e : l[k] = b := (List.getElem?_eq_some_iff.1 hb).2
  rw [isD_iff] at hd
  refine ⟨?_, ?_⟩
  · rw [List.take_succ_eq_append_getElem hk, decVal_snoc, h.1, e]
  · have := h.2
    rw [Nat.pow_succ]
    omega
theorem DvInv.small {l : List UInt8} {k n : Nat} (h : DvInv l k n) (hk : k ≤ 10) : n ≤ 10000000000 := by
  have h1 := h.2
  have h2 : 10 ^ k ≤ 10 ^ 10 := Nat.pow_le_pow_right (by omega) hk
  omega
theorem DvInv.all {l : List UInt8} {k n : Nat} (h : DvInv l k n) (hk : l.length ≤ k) : decVal l = n := by
  have := h.1
  rwa [List.take_of_length_le hk] at this

theorem byteGet {s : ByteArray} {k : Nat} (h : k < s.size) : s.data.toList[k]? = some s[k] := by
  rw [Array.getElem?_toList]; exact Array.getElem?_eq_getElem h
end Go.Proofs.YthnofckkehephaaGreatDoor.Plain
