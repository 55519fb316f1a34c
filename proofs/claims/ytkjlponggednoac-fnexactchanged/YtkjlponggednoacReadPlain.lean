/- Plain facts on the reading of a number out of bytes. Nothing of the program stands here. -/
import Derived.Test.YtkjlponggednoacPlain
import Derived.WalkKit
import Derived.Lib.Strings
namespace Go.Proofs.Ytkjlponggednoac.Plain
open Go.RowKit

/-- The bytes from A on, up to k. -/
def seg (l : List UInt8) (A k : Nat) : List UInt8 := (l.take k).drop A

theorem seg_length {l : List UInt8} {A k : Nat} (h2 : k ≤ l.length) : (seg l A k).length = k - A := by
  unfold seg; rw [List.length_drop, List.length_take]; omega

theorem seg_same (l : List UInt8) (A : Nat) : seg l A A = [] := by
  unfold seg; apply List.eq_nil_of_length_eq_zero; rw [List.length_drop, List.length_take]; omega

theorem seg_succ {l : List UInt8} {A k : Nat} {b : UInt8} (h1 : A ≤ k) (hb : l[k]? = some b) : seg l A (k + 1) = seg l A k ++ [b] := by
  have hk : k < l.length := (List.getElem?_eq_some_iff.1 hb).1
  have e : l[k] = b := (List.getElem?_eq_some_iff.1 hb).2
  unfold seg
  rw [List.take_succ_eq_append_getElem hk, List.drop_append_of_le_length (by rw [List.length_take]; omega), e]

theorem drop_eq {l : List UInt8} {k : Nat} {b : UInt8} (hb : l[k]? = some b) : l.drop k = b :: l.drop (k + 1) := by
  have hk : k < l.length := (List.getElem?_eq_some_iff.1 hb).1
  have e : l[k] = b := (List.getElem?_eq_some_iff.1 hb).2
  rw [List.drop_eq_getElem_cons hk, e]

/-- Behind some rounds of the reading. -/
def RdInv (l : List UInt8) (A k n sc : Nat) : Prop :=
  A ≤ k ∧ k ≤ l.length ∧ k ≤ A + 5 ∧ n = valL (seg l A k) ∧ sc = 128 ^ (k - A) ∧ (∀ x ∈ seg l A k, 128 ≤ x.toNat) ∧
    rdL 5 [] (l.drop A) = rdL (5 - (k - A)) (seg l A k) (l.drop k)

/-- The number, a byte later. -/
def rdn (m c x : Nat) : Nat := m + x % 128 * c

theorem rdn_le (m c x : Nat) (hm : m < c) (hc : c ≤ 268435456) : rdn m c x ≤ 34359738368 := by
  unfold rdn
  have h := Nat.mul_le_mul (show x % 128 ≤ 127 by omega) hc
  omega

theorem wrapRd (m c x : Nat) (hm : m < c) (hc : c ≤ 268435456) : wrap64 ((m : Int) + wrap64 ((x : Int) % 128 * (c : Int))) = ((rdn m c x : Nat) : Int) := by
  have h := Nat.mul_le_mul (show x % 128 ≤ 127 by omega) hc
  have h2 : (x : Int) % 128 = ((x % 128 : Nat) : Int) := rfl
  rw [h2, ← Int.natCast_mul]
  unfold rdn
  generalize x % 128 * c = y at h ⊢
  have h3 : wrap64 (y : Int) = (y : Int) := by simp only [wrap64]; omega
  rw [h3]
  simp only [wrap64]
  omega

theorem RdInv.start (l : List UInt8) (A : Nat) (h : A ≤ l.length) : RdInv l A A 0 1 := by
  refine ⟨Nat.le_refl _, h, by omega, ?_, ?_, ?_, ?_⟩
  · rw [seg_same]; rfl
  · simp
  · rw [seg_same]; simp
  · rw [seg_same]; simp

theorem RdInv.bound {l : List UInt8} {A k n sc : Nat} (h : RdInv l A k n sc) : n < sc ∧ 1 ≤ sc ∧ (sc = 1 ∨ sc = 128 ∨ sc = 16384 ∨ sc = 2097152 ∨ sc = 268435456 ∨ sc = 34359738368) ∧ (k < A + 5 → sc ≤ 268435456) ∧ (k = A + 5 → sc = 34359738368) := by
  obtain ⟨h1, h2, h3, h4, h5, h6, h7⟩ := h
  have hv := valL_lt (seg l A k)
  rw [seg_length h2, ← h4, ← h5] at hv
  have hd : k - A = 0 ∨ k - A = 1 ∨ k - A = 2 ∨ k - A = 3 ∨ k - A = 4 ∨ k - A = 5 := by omega
  rcases hd with e | e | e | e | e | e <;> rw [e] at h5 <;> simp at h5 <;> subst h5 <;> refine ⟨hv, by omega, by omega, by omega, by omega⟩

theorem RdInv.step {l : List UInt8} {A k n sc : Nat} {b : UInt8} (h : RdInv l A k n sc) (hb : l[k]? = some b) (hk : k < A + 5) (h128 : 128 ≤ b.toNat) :
    RdInv l A (k + 1) (rdn n sc b.toNat) (sc * 128) := by
  obtain ⟨h1, h2, h3, h4, h5, h6, h7⟩ := h
  have hkl : k < l.length := (List.getElem?_eq_some_iff.1 hb).1
  refine ⟨by omega, by omega, by omega, ?_, ?_, ?_, ?_⟩
  · rw [seg_succ h1 hb, valL_append, seg_length h2, ← h4, ← h5]; rfl
  · rw [show k + 1 - A = (k - A) + 1 from by omega, Nat.pow_succ, h5]
  · rw [seg_succ h1 hb]
    intro x hx
    rcases List.mem_append.1 hx with hx | hx
    · exact h6 x hx
    · simp at hx; subst hx; exact h128
  · rw [h7, drop_eq hb, show 5 - (k - A) = (5 - (k + 1 - A)) + 1 from by omega, seg_succ h1 hb]
    rw [rdL, if_neg (by omega)]

theorem RdInv.last {l : List UInt8} {A k n sc : Nat} {b : UInt8} (h : RdInv l A k n sc) (hb : l[k]? = some b) (hk : k < A + 5) (h128 : b.toNat < 128) :
    rdL 5 [] (l.drop A) = if rdn n sc b.toNat ≤ 1000000000 ∧ varL (rdn n sc b.toNat) = seg l A (k + 1) then some (rdn n sc b.toNat, k + 1 - A) else none := by
  obtain ⟨h1, h2, h3, h4, h5, h6, h7⟩ := h
  have hn : rdn n sc b.toNat = valL (seg l A k ++ [b]) := by rw [valL_append, seg_length h2, ← h4, ← h5]; rfl
  rw [hn, seg_succ h1 hb, h7, drop_eq hb, show 5 - (k - A) = (5 - (k + 1 - A)) + 1 from by omega, rdL, if_pos h128, seg_length h2, show k - A + 1 = k + 1 - A from by omega]

theorem RdInv.canon {l : List UInt8} {A k n sc : Nat} {b : UInt8} (h : RdInv l A k n sc) (hb : l[k]? = some b) (hk : k < A + 5) (h128 : b.toNat < 128) :
    varL (rdn n sc b.toNat) = seg l A (k + 1) ↔ ¬ (b.toNat = 0 ∧ A < k) := by
  obtain ⟨h1, h2, h3, h4, h5, h6, h7⟩ := h
  have hn : rdn n sc b.toNat = valL (seg l A k ++ [b]) := by rw [valL_append, seg_length h2, ← h4, ← h5]; rfl
  rw [hn, seg_succ h1 hb, Plain.canon _ b h6 (by rw [seg_length h2]; omega) h128, seg_length h2]
  constructor
  · intro h ⟨x, y⟩; exact h ⟨x, by omega⟩
  · intro h ⟨x, y⟩; exact h ⟨x, by omega⟩

theorem RdInv.stop {l : List UInt8} {A k n sc : Nat} (h : RdInv l A k n sc) (hk : k = l.length ∨ k = A + 5) : rdL 5 [] (l.drop A) = none := by
  obtain ⟨h1, h2, h3, h4, h5, h6, h7⟩ := h
  rw [h7]
  rcases hk with e | e
  · rw [e, List.drop_length]
    cases 5 - (l.length - A) <;> rfl
  · rw [e, show 5 - (A + 5 - A) = 0 from by omega]; rfl

/-- The answer of a reading. -/
def rvV (A : Nat) : Option (Nat × Nat) → Value
  | some (n, d) => .tuple #[.int .i64 n, .int .i64 ((A + d : Nat) : Int), .bool true]
  | none => .tuple #[.int .i64 0, .int .i64 0, .bool false]

theorem rd_le {f : Nat} {pre r : List UInt8} {n d : Nat} (h : rdL f pre r = some (n, d)) : d ≤ pre.length + r.length ∧ 1 ≤ d ∧ n ≤ 1000000000 := by
  induction f generalizing pre r with
  | zero => simp [rdL] at h
  | succ f ih =>
    cases r with
    | nil => simp [rdL] at h
    | cons b r =>
      rw [rdL] at h
      split at h
      · split at h
        · rename_i h3
          simp at h
          obtain ⟨h1, h2⟩ := h
          simp; omega
        · cases h
      · have := ih h
        simp at this ⊢
        omega

theorem byte_at {s : ByteArray} {k : Nat} (h : k < s.size) : s.data.toList[k]? = some s[k] := by
  rw [Array.getElem?_toList]; exact Array.getElem?_eq_getElem h

theorem ext_seg (s : ByteArray) (A k : Nat) : (s.extract A k).toList = seg s.data.toList A k := by
  rw [ByteArray.toList_eq, Lib.extract_data, seg, List.drop_take]

theorem rv_yes {A k y : Nat} {l : List UInt8} (hAk : A ≤ k) (h : rdL 5 [] (l.drop A) = if y ≤ 1000000000 ∧ varL y = seg l A (k + 1) then some (y, k + 1 - A) else none)
    (h1 : ¬ 1000000000 < y) (h2 : varL y = seg l A (k + 1)) : rvV A (rdL 5 [] (l.drop A)) = .tuple #[.int .i64 y, .int .i64 ((k : Int) + 1), .bool true] := by
  rw [h, if_pos ⟨by omega, h2⟩]
  simp only [rvV]
  rw [show A + (k + 1 - A) = k + 1 from by omega]
  rfl

theorem rv_no {A k y : Nat} {l : List UInt8} (h : rdL 5 [] (l.drop A) = if y ≤ 1000000000 ∧ varL y = seg l A (k + 1) then some (y, k + 1 - A) else none)
    (h1 : 1000000000 < y ∨ varL y ≠ seg l A (k + 1)) : rvV A (rdL 5 [] (l.drop A)) = .tuple #[.int .i64 0, .int .i64 0, .bool false] := by
  rw [h, if_neg (by rintro ⟨x, z⟩; rcases h1 with h1 | h1; omega; exact h1 z)]
  rfl

end Go.Proofs.Ytkjlponggednoac.Plain
