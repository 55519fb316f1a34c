/- Plain facts on sums of 32 bits: halvings, the sum of bytes, and that no two texts that differ in one byte have one sum. Nothing of the program stands here. -/
import Derived.Below
import Derived.Laws.BitsAllLaws
namespace Go.Proofs.YtnlcknklghalkaaDoor.Plain

def half (x : Nat) : Nat := x / 2 ^^^ (if x % 2 = 1 then 3558460437 else 0)

def halfN : Nat → Nat → Nat
  | 0, x => x
  | n + 1, x => half (halfN n x)

def stepB (x c : Nat) : Nat := halfN 8 (x ^^^ c)

def sumL : Nat → List UInt8 → Nat
  | x, [] => x
  | x, b :: r => sumL (stepB x b.toNat) r

theorem half_even {x : Nat} (h : x % 2 = 0) : half x = x / 2 := by
  unfold half; rw [if_neg (by omega), Nat.xor_zero]
theorem half_odd {x : Nat} (h : x % 2 = 1) : half x = x / 2 ^^^ 3558460437 := by
  unfold half; rw [if_pos h]

theorem half_lt {x : Nat} (h : x < 4294967296) : half x < 4294967296 := by
  have : half x < 2 ^ 32 := by
    unfold half
    refine Nat.xor_lt_two_pow (by omega) ?_
    split <;> omega
  omega
theorem halfN_lt {x : Nat} (h : x < 4294967296) (n : Nat) : halfN n x < 4294967296 := by
  induction n with
  | zero => exact h
  | succ n ih => exact half_lt ih
theorem xor_lt {x c : Nat} (h : x < 4294967296) (hc : c < 4294967296) : x ^^^ c < 4294967296 := by
  have : x ^^^ c < 2 ^ 32 := Nat.xor_lt_two_pow (by omega) (by omega)
  omega
theorem stepB_lt {x c : Nat} (h : x < 4294967296) (hc : c < 256) : stepB x c < 4294967296 := halfN_lt (xor_lt h (by omega)) 8
theorem sumL_lt {x : Nat} (l : List UInt8) (h : x < 4294967296) : sumL x l < 4294967296 := by
  induction l generalizing x with
  | nil => exact h
  | cons b r ih => exact ih (stepB_lt h b.toNat_lt)

theorem sumL_append (x : Nat) (l m : List UInt8) : sumL x (l ++ m) = sumL (sumL x l) m := by
  induction l generalizing x with
  | nil => rfl
  | cons b r ih => exact ih _

theorem xor_mod_two (a b : Nat) : (a ^^^ b) % 2 = (a % 2 + b % 2) % 2 := by
  have := Nat.xor_mod_two_pow (a := a) (b := b) (n := 1)
  simp only [Nat.pow_one] at this
  rw [this]
  rcases Nat.mod_two_eq_zero_or_one a with h | h <;> rcases Nat.mod_two_eq_zero_or_one b with g | g <;> rw [h, g] <;> rfl
theorem xor_div_two (a b : Nat) : (a ^^^ b) / 2 = a / 2 ^^^ b / 2 := by
  have := Nat.xor_div_two_pow (a := a) (b := b) (n := 1)
  simpa using this

theorem half_xor (a b : Nat) : half (a ^^^ b) = half a ^^^ half b := by
  unfold half
  rw [xor_div_two, xor_mod_two]
  rcases Nat.mod_two_eq_zero_or_one a with h | h <;> rcases Nat.mod_two_eq_zero_or_one b with g | g <;> simp only [h, g]
  · simp
  · simp [Nat.xor_assoc]
  · simp only [if_true, if_false, Nat.xor_zero, Nat.zero_ne_one]
    rw [Nat.xor_assoc, Nat.xor_comm (b / 2), ← Nat.xor_assoc]
  · simp only [Nat.reduceAdd, Nat.reduceMod, if_true, Nat.zero_ne_one, if_false, Nat.xor_zero]
    rw [Nat.xor_assoc, ← Nat.xor_assoc 3558460437, Nat.xor_comm 3558460437, Nat.xor_assoc (b / 2), Nat.xor_self, Nat.xor_zero]
theorem halfN_xor (n a b : Nat) : halfN n (a ^^^ b) = halfN n a ^^^ halfN n b := by
  induction n with
  | zero => rfl
  | succ n ih => simp only [halfN, ih, half_xor]

/-- What four halvings of the four lowest bits alone come to. -/
def tab : List Nat := [0, 1166650509, 2333301018, 3466261911, 3189058079, 4221339282, 889615109, 1888477064, 3558460437, 2442158232, 1594529039, 444807554, 1779230218, 797264519, 3776954128, 2761298845]
def tabN (r : Nat) : Nat := tab.getD r 0
theorem half4_low : ∀ r, r < 16 → halfN 4 r = tabN r := by decide
theorem tabN_lt {r : Nat} (h : r < 16) : tabN r < 4294967296 := by
  rw [← half4_low r h]; exact halfN_lt (by omega) 4
theorem parted (x : Nat) : x = (16 * (x / 16)) ^^^ (x % 16) := by
  apply Nat.eq_of_testBit_eq
  intro j
  have h := Nat.testBit_two_pow_mul_add (i := 4) (x / 16) (b := x % 16) (Nat.mod_lt _ (by decide)) j
  rw [show 2 ^ 4 * (x / 16) + x % 16 = x from by omega] at h
  rw [h, Nat.testBit_xor, show (16 : Nat) * (x / 16) = 2 ^ 4 * (x / 16) from rfl, Nat.testBit_two_pow_mul]
  by_cases hj : j < 4
  · have h4 : ¬ 4 ≤ j := by omega
    simp [hj, h4]
  · have h4 : 4 ≤ j := by omega
    have : (x % 16).testBit j = false := Nat.testBit_lt_two_pow (Nat.lt_of_lt_of_le (show x % 16 < 2 ^ 4 by omega) (Nat.pow_le_pow_right (by decide) h4))
    simp [hj, this, h4]
theorem half4 (x : Nat) : halfN 4 x = x / 16 ^^^ tabN (x % 16) := by
  have e : halfN 4 (16 * (x / 16)) = x / 16 := by
    simp only [halfN]
    rw [half_even (x := 16 * (x / 16)) (by omega), half_even (x := 16 * (x / 16) / 2) (by omega), half_even (x := 16 * (x / 16) / 2 / 2) (by omega), half_even (by omega)]
    omega
  conv => lhs; rw [parted x]
  rw [halfN_xor, e, half4_low _ (Nat.mod_lt _ (by decide))]
theorem half8 (x : Nat) : halfN 8 x = halfN 4 (halfN 4 x) := rfl

/-- The four bytes of a sum, the highest first. -/
def four (x : Nat) : List UInt8 := [UInt8.ofNat (x / 16777216), UInt8.ofNat (x / 65536), UInt8.ofNat (x / 256), UInt8.ofNat x]
def sumOf (l : List UInt8) : Nat := sumL 4294967295 l
def sealedL (l : List UInt8) : List UInt8 := l ++ four (sumOf l)

theorem sumOf_lt (l : List UInt8) : sumOf l < 4294967296 := sumL_lt l (by decide)

theorem xor_cancel_left {a b c : Nat} (h : a ^^^ b = a ^^^ c) : b = c := by
  have := congrArg (fun x => a ^^^ x) h
  simpa [← Nat.xor_assoc] using this
theorem xor_cancel_right {a b c : Nat} (h : b ^^^ a = c ^^^ a) : b = c :=
  xor_cancel_left (a := a) (by rw [Nat.xor_comm a b, Nat.xor_comm a c]; exact h)
/- No two sums meet. -/
theorem half_inj {a b : Nat} (ha : a < 4294967296) (hb : b < 4294967296) (h : half a = half b) : a = b := by
  have top : ∀ x, x < 4294967296 → (half x).testBit 31 = decide (x % 2 = 1) := by
    intro x hx
    have h0 : (x / 2).testBit 31 = false := Nat.testBit_lt_two_pow (by omega)
    unfold half
    rw [Nat.testBit_xor, h0]
    rcases Nat.mod_two_eq_zero_or_one x with g | g <;> simp only [g]
    · simp
    · decide
  have hm : a % 2 = b % 2 := by
    have := (top a ha).symm.trans ((congrArg (fun x => Nat.testBit x 31) h).trans (top b hb))
    rcases Nat.mod_two_eq_zero_or_one a with g | g <;> rcases Nat.mod_two_eq_zero_or_one b with k | k <;> rw [g, k] at this ⊢ <;> simp at this
  have hd : a / 2 = b / 2 := by
    unfold half at h
    rw [hm] at h
    exact xor_cancel_right h
  omega
theorem halfN_inj (n : Nat) {a b : Nat} (ha : a < 4294967296) (hb : b < 4294967296) (h : halfN n a = halfN n b) : a = b := by
  induction n with
  | zero => exact h
  | succ n ih => exact ih (half_inj (halfN_lt ha n) (halfN_lt hb n) h)
theorem stepB_inj {x y c d : Nat} (hx : x < 4294967296) (hy : y < 4294967296) (hc : c < 256) (hd : d < 256) (h : stepB x c = stepB y d) : x ^^^ c = y ^^^ d :=
  halfN_inj 8 (xor_lt hx (by omega)) (xor_lt hy (by omega)) h
theorem sumL_inj {x y : Nat} (l : List UInt8) (hx : x < 4294967296) (hy : y < 4294967296) (h : sumL x l = sumL y l) : x = y := by
  induction l generalizing x y with
  | nil => exact h
  | cons b r ih =>
    have := ih (stepB_lt hx b.toNat_lt) (stepB_lt hy b.toNat_lt) h
    exact xor_cancel_right (stepB_inj hx hy b.toNat_lt b.toNat_lt this)
theorem sumL_other {x : Nat} (hx : x < 4294967296) (l r : List UInt8) (b c : UInt8) (h : sumL x (l ++ b :: r) = sumL x (l ++ c :: r)) : b = c := by
  rw [sumL_append, sumL_append] at h
  have hl := sumL_lt l hx
  have := sumL_inj r (stepB_lt hl b.toNat_lt) (stepB_lt hl c.toNat_lt) h
  exact UInt8.toNat_inj.1 (xor_cancel_left (stepB_inj hl hl b.toNat_lt c.toNat_lt this))
end Go.Proofs.YtnlcknklghalkaaDoor.Plain
