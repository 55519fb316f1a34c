/- Plain facts on bytes and numbers: the bytes of a number, seven bits a byte, and their reading. Nothing of the program stands here. -/
import Derived.Below
namespace Go.Proofs.Ytkjlponggednoac.Plain

/-- The bytes of a number, the lowest seven bits first, with fuel. -/
def varF : Nat → Nat → List UInt8
  | 0, n => [UInt8.ofNat n]
  | f + 1, n => if 127 < n then UInt8.ofNat (n % 128 + 128) :: varF f (n / 128) else [UInt8.ofNat n]

def varL (n : Nat) : List UInt8 := varF 10 n

/-- The number that bytes tell. -/
def valL : List UInt8 → Nat
  | [] => 0
  | b :: r => b.toNat % 128 + 128 * valL r

theorem varF_more (f n : Nat) (h : 127 < n) : varF (f + 1) n = UInt8.ofNat (n % 128 + 128) :: varF f (n / 128) := by
  simp [varF, h]
theorem varF_last (f n : Nat) (h : n ≤ 127) : varF f n = [UInt8.ofNat n] := by
  cases f with
  | zero => rfl
  | succ f => simp [varF]; omega

theorem varF_length (f n : Nat) : (varF f n).length ≤ f + 1 := by
  induction f generalizing n with
  | zero => simp [varF]
  | succ f ih =>
    unfold varF
    split
    · have := ih (n / 128); simp; omega
    · simp
theorem varF_pos (f n : Nat) : 1 ≤ (varF f n).length := by
  cases f with
  | zero => simp [varF]
  | succ f => unfold varF; split <;> simp

theorem varL_length (n : Nat) : (varL n).length ≤ 11 := varF_length 10 n

theorem valL_append (l : List UInt8) (b : UInt8) : valL (l ++ [b]) = valL l + b.toNat % 128 * 128 ^ l.length := by
  induction l with
  | nil => simp [valL]
  | cons a r ih =>
    simp only [List.cons_append, valL, ih, List.length_cons, Nat.pow_succ]
    rw [Nat.mul_add]
    have : 128 * (b.toNat % 128 * 128 ^ r.length) = b.toNat % 128 * (128 ^ r.length * 128) := by
      rw [← Nat.mul_assoc, Nat.mul_comm 128, Nat.mul_assoc, Nat.mul_comm 128]
    omega

theorem valL_lt (l : List UInt8) : valL l < 128 ^ l.length := by
  induction l with
  | nil => simp [valL]
  | cons a r ih =>
    simp only [valL, List.length_cons, Nat.pow_succ]
    omega

/-- All but the last have 128; the last has not. -/
def okL : List UInt8 → Bool
  | [] => false
  | [b] => decide (b.toNat < 128)
  | b :: r => decide (128 ≤ b.toNat) && okL r

theorem ofNat_mod_add (b : UInt8) (h : 128 ≤ b.toNat) (k : Nat) : UInt8.ofNat ((b.toNat % 128 + 128 * k) % 128 + 128) = b := by
  have hb := b.toNat_lt
  have e : (b.toNat % 128 + 128 * k) % 128 + 128 = b.toNat := by omega
  rw [e]; simp

/-- Bytes whose last is not nought (or that are one alone) are those of their number. -/
theorem var_val (pre : List UInt8) (b : UInt8) (hpre : ∀ x ∈ pre, 128 ≤ x.toNat) (hb : b.toNat < 128) (hz : pre = [] ∨ b.toNat ≠ 0) :
    ∀ f, pre.length ≤ f → varF f (valL (pre ++ [b])) = pre ++ [b] := by
  induction pre with
  | nil =>
    intro f _
    have e : valL ([] ++ [b]) = b.toNat := by simp [valL]; omega
    rw [e, varF_last f _ (by omega)]
    simp
  | cons a r ih =>
    intro f hf
    have ha := hpre a (by simp)
    have hz' : b.toNat ≠ 0 := by
      rcases hz with h | h
      · cases h
      · exact h
    match f, hf with
    | f + 1, hf =>
      have hr := ih (fun x hx => hpre x (by simp [hx])) (.inr hz') f (by simp at hf; omega)
      have hv : valL (a :: r ++ [b]) = a.toNat % 128 + 128 * valL (r ++ [b]) := rfl
      have hpos : 1 ≤ valL (r ++ [b]) := by
        rw [valL_append]
        have : 1 ≤ 128 ^ r.length := Nat.pow_pos (by omega)
        have h2 : b.toNat % 128 = b.toNat := by omega
        rw [h2]
        have : 1 * 1 ≤ b.toNat * 128 ^ r.length := Nat.mul_le_mul (by omega) this
        omega
      rw [hv, varF_more f _ (by omega), ofNat_mod_add a ha]
      have hd : (a.toNat % 128 + 128 * valL (r ++ [b])) / 128 = valL (r ++ [b]) := by omega
      rw [hd, hr]
      rfl

theorem varF_len_le (f n k : Nat) (h : n < 128 ^ k) (hk : 1 ≤ k) : (varF f n).length ≤ k := by
  induction f generalizing n k with
  | zero => simp [varF]; omega
  | succ f ih =>
    unfold varF
    split
    · match k, hk with
      | 1, _ => simp at h; omega
      | k + 2, _ =>
        have h2 : n / 128 < 128 ^ (k + 1) := by
          rw [Nat.pow_succ] at h
          omega
        have := ih (n / 128) (k + 1) h2 (by omega)
        simp; omega
    · simp; omega

/-- Bytes whose last is nought, behind others, are a longer form. -/
theorem var_val_longer (pre : List UInt8) (b : UInt8) (hb : b.toNat = 0) (hz : pre ≠ []) (f : Nat) : varF f (valL (pre ++ [b])) ≠ pre ++ [b] := by
  intro e
  have h1 : valL (pre ++ [b]) = valL pre := by rw [valL_append, hb]; simp
  have h2 := valL_lt pre
  have hp : 1 ≤ pre.length := List.length_pos_iff.2 hz
  have h3 := varF_len_le f _ _ h2 hp
  rw [h1] at e
  rw [e] at h3
  simp at h3
  omega

/-- What is read: fuel, what was seen, what is ahead. -/
def rdL : Nat → List UInt8 → List UInt8 → Option (Nat × Nat)
  | 0, _, _ => none
  | _ + 1, _, [] => none
  | f + 1, pre, b :: r =>
    if b.toNat < 128 then
      if valL (pre ++ [b]) ≤ 1000000000 ∧ varL (valL (pre ++ [b])) = pre ++ [b] then some (valL (pre ++ [b]), pre.length + 1) else none
    else rdL f (pre ++ [b]) r

theorem canon (pre : List UInt8) (b : UInt8) (hpre : ∀ x ∈ pre, 128 ≤ x.toNat) (hl : pre.length ≤ 4) (hb : b.toNat < 128) :
    varL (valL (pre ++ [b])) = pre ++ [b] ↔ ¬ (b.toNat = 0 ∧ 0 < pre.length) := by
  constructor
  · intro h ⟨h1, h2⟩
    exact var_val_longer pre b h1 (List.length_pos_iff.1 h2) 10 h
  · intro h
    refine var_val pre b hpre hb ?_ 10 (by omega)
    by_cases hp : pre = []
    · exact .inl hp
    · exact .inr fun e => h ⟨e, List.length_pos_iff.2 hp⟩

/-- Behind some rounds: what is written, and what is left to write. -/
def VarInv (N m : Nat) (pre : List UInt8) : Prop := ∃ f, m < 128 ^ f ∧ pre.length + f = 10 ∧ varL N = pre ++ varF f m

theorem VarInv.start (N : Nat) (h : N ≤ 34359738368) : VarInv N N [] := ⟨10, by omega, rfl, rfl⟩
theorem VarInv.step {N m : Nat} {pre : List UInt8} (h : VarInv N m pre) (hm : 127 < m) : VarInv N (m / 128) (pre ++ [UInt8.ofNat (m % 128 + 128)]) := by
  obtain ⟨f, h1, h2, h3⟩ := h
  match f, h1, h2, h3 with
  | 0, h1, _, _ => simp at h1; omega
  | f + 1, h1, h2, h3 =>
    refine ⟨f, ?_, by simp; omega, ?_⟩
    · rw [Nat.pow_succ] at h1; omega
    · rw [h3, varF_more f m hm]; simp
theorem VarInv.done {N m : Nat} {pre : List UInt8} (h : VarInv N m pre) (hm : m ≤ 127) : varL N = pre ++ [UInt8.ofNat m] := by
  obtain ⟨f, h1, h2, h3⟩ := h
  rw [h3, varF_last f m hm]
theorem VarInv.len {N m : Nat} {pre : List UInt8} (h : VarInv N m pre) : pre.length ≤ 10 := by
  obtain ⟨f, h1, h2, h3⟩ := h
  omega

/-- Bytes as values. -/
def bv (l : List UInt8) : List Value := l.map fun b => Value.int .u8 (b.toNat : Int)
theorem bv_length (l : List UInt8) : (bv l).length = l.length := by simp [bv]
theorem bv_append (a b : List UInt8) : bv (a ++ b) = bv a ++ bv b := by simp [bv]
theorem u8_more (m : Nat) : ((UInt8.ofNat (m % 128 + 128)).toNat : Int) = ((m % 128 + 128 : Nat) : Int) := by
  rw [UInt8.toNat_ofNat']; omega
theorem u8_small (m : Nat) (h : m ≤ 127) : ((UInt8.ofNat m).toNat : Int) = (m : Int) := by
  rw [UInt8.toNat_ofNat']; omega

theorem hide {p : Prop} (h : p) : RowKit.Hid p := h
theorem unhide {p : Prop} (h : RowKit.Hid p) : p := h
theorem below2 {w w1 w2 : World} (h1 : RowKit.Below w.heap.size w w1) (h2 : RowKit.Below w1.heap.size w1 w2) : RowKit.Below w.heap.size w w2 :=
  h1.trans (h2.mono h1.size)

end Go.Proofs.Ytkjlponggednoac.Plain
