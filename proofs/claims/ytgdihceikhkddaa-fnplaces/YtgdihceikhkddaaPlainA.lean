/- Several texts in one: Plain, HexPlain, DecPlain, StrPlain, RangePlain, SetPlain, ReadPlain, ReadSetPlain, FlagPlain, MailPlain, SetTextPlain, RunsCount, SetCut, SetFacts. Made by fuse_tl.py. -/
import Derived.Below
import Derived.WalkKit
import Derived.Lib.ItoaLen
import Derived.Lib.Strings
/- Plain facts on bytes and numbers: the bytes of a number, seven bits a byte, and their reading. Nothing of the program stands here. -/
namespace Go.Proofs.Ytgdihceikhkddaa.Plain

/-- The bytes of a number, the lowest seven bits first, with fuel. -/
def varF : Nat → Nat → List UInt8
  | 0, n => [UInt8.ofNat n]
  | f + 1, n => if 127 < n then UInt8.ofNat (n % 128 + 128) :: varF f (n / 128) else [UInt8.ofNat n]

def varL (n : Nat) : List UInt8 := varF 10 n

/-- The number that bytes tell. -/
def valL : List UInt8 → Nat
  | [] => 0
  | b :: r => b.toNat % 128 + 128 * valL r

theorem varF_more (f n : Nat) (h : 127 < n) : varF (f + 1) n = UInt8.ofNat (n % 128 + 128) :: varF f (n / 128) := by
  simp [varF, h]
theorem varF_last (f n : Nat) (h : n ≤ 127) : varF f n = [UInt8.ofNat n] := by
  cases f with
  | zero => rfl
  | succ f => simp [varF]; omega

theorem valL_append (l : List UInt8) (b : UInt8) : valL (l ++ [b]) = valL l + b.toNat % 128 * 128 ^ l.length := by
  induction l with
  | nil => simp [valL]
  | cons a r ih =>
    simp only [List.cons_append, valL, ih, List.length_cons, Nat.pow_succ]
    rw [Nat.mul_add]
    have : 128 * (b.toNat % 128 * 128 ^ r.length) = b.toNat % 128 * (128 ^ r.length * 128) := by
      rw [← Nat.mul_assoc, Nat.mul_comm 128, Nat.mul_assoc, Nat.mul_comm 128]
    omega

/-- What is read: fuel, what was seen, what is ahead. -/
def rdL : Nat → List UInt8 → List UInt8 → Option (Nat × Nat)
  | 0, _, _ => none
  | _ + 1, _, [] => none
  | f + 1, pre, b :: r =>
    if b.toNat < 128 then
      if valL (pre ++ [b]) ≤ 1000000000 ∧ varL (valL (pre ++ [b])) = pre ++ [b] then some (valL (pre ++ [b]), pre.length + 1) else none
    else rdL f (pre ++ [b]) r

/-- Behind some rounds: what is written, and what is left to write. -/
def VarInv (N m : Nat) (pre : List UInt8) : Prop := ∃ f, m < 128 ^ f ∧ pre.length + f = 10 ∧ varL N = pre ++ varF f m

theorem VarInv.step {N m : Nat} {pre : List UInt8} (h : VarInv N m pre) (hm : 127 < m) : VarInv N (m / 128) (pre ++ [UInt8.ofNat (m % 128 + 128)]) := by
  obtain ⟨f, h1, h2, h3⟩ := h
  match f, h1, h2, h3 with
  | 0, h1, _, _ => simp at h1; omega
  | f + 1, h1, h2, h3 =>
    refine ⟨f, ?_, by simp; omega, ?_⟩
    · rw [Nat.pow_succ] at h1; omega
    · rw [h3, varF_more f m hm]; simp
theorem VarInv.done {N m : Nat} {pre : List UInt8} (h : VarInv N m pre) (hm : m ≤ 127) : varL N = pre ++ [UInt8.ofNat m] := by
  obtain ⟨f, h1, h2, h3⟩ := h
  rw [h3, varF_last f m hm]
theorem VarInv.len {N m : Nat} {pre : List UInt8} (h : VarInv N m pre) : pre.length ≤ 10 := by
  obtain ⟨f, h1, h2, h3⟩ := h
  omega

theorem hide {p : Prop} (h : p) : RowKit.Hid p := h
theorem uh {p : Prop} (h : RowKit.Hid p) : p := h
end Go.Proofs.Ytgdihceikhkddaa.Plain

/- Plain facts on figures: two for each byte. Nothing of the program stands here. -/
namespace Go.Proofs.Ytgdihceikhkddaa.Plain
open Go.RowKit

/-- The figure of a number below 16. -/
def fig (x : Nat) : UInt8 := if x < 10 then UInt8.ofNat (48 + x) else UInt8.ofNat (87 + x)

end Go.Proofs.Ytgdihceikhkddaa.Plain

/- Plain facts on decimal figures. Nothing of the program stands here. -/
namespace Go.Proofs.Ytgdihceikhkddaa.Plain
open Go.RowKit

/-- The figures of a number; none of 0. -/
def dz (m : Nat) : List UInt8 := if m = 0 then [] else Lib.decDigits m

theorem dz_zero : dz 0 = [] := rfl
theorem dz_pos {m : Nat} (h : m ≠ 0) : dz m = Lib.decDigits m := if_neg h
theorem fig_dec {x : Nat} (h : x < 10) : fig x = UInt8.ofNat (48 + x) := if_pos h
theorem dz_step {m : Nat} (h : m ≠ 0) : dz m = dz (m / 10) ++ [fig (m % 10)] := by
  rw [dz_pos h, fig_dec (by omega)]
  by_cases h10 : m < 10
  · rw [Lib.decDigits, dif_pos h10, show m / 10 = 0 from by omega, dz_zero, show m % 10 = m from by omega]; rfl
  · rw [Lib.decDigits, dif_neg h10, dz_pos (by omega)]
theorem dz_len {m : Nat} (h : m ≤ 9223372036854775808) : (dz m).length ≤ 20 := by
  unfold dz
  split
  · simp
  · rw [Lib.decDigits_length]; exact Lib.nDigits_le20 m (by omega)

/-- Behind some rounds: what is left, and what is written. -/
def DecInv (N m : Nat) (suf : List UInt8) : Prop := dz N = dz m ++ suf ∧ suf.length ≤ 20
theorem DecInv.step {N m : Nat} {suf : List UInt8} (hN : N ≤ 9223372036854775808) (h : DecInv N m suf) (hm : m ≠ 0) : DecInv N (m / 10) (fig (m % 10) :: suf) := by
  have e : dz N = dz (m / 10) ++ (fig (m % 10) :: suf) := by rw [h.1, dz_step hm]; simp
  refine ⟨e, ?_⟩
  have := dz_len hN
  rw [e] at this
  simp only [List.length_append] at this
  omega
theorem DecInv.done {N : Nat} {suf : List UInt8} (h : DecInv N 0 suf) (hN : N ≠ 0) : suf = Lib.decDigits N := by
  have := h.1
  rw [dz_pos hN, dz_zero] at this
  simpa using this.symm

end Go.Proofs.Ytgdihceikhkddaa.Plain

/- Plain facts on rows of strings and on marks. Nothing of the program stands here. -/
namespace Go.Proofs.Ytgdihceikhkddaa.Plain
open Go.RowKit

end Go.Proofs.Ytgdihceikhkddaa.Plain

/- Rows of ranges, plainly: their cells; sets of numbers as ranges. Nothing of the program stands here. -/
namespace Go.Proofs.Ytgdihceikhkddaa.Plain
set_option linter.unusedVariables false

structure Rg where
  lo : Int
  hi : Int

def rgl (r : Rg) : List Value := [.int .i64 r.lo, .int .i64 r.hi]
def rgs (l : List Rg) : List Value := l.flatMap rgl
theorem rgs_cons (r : Rg) (l : List Rg) : rgs (r :: l) = rgl r ++ rgs l := by simp [rgs]
theorem rgs_append (a b : List Rg) : rgs (a ++ b) = rgs a ++ rgs b := by simp [rgs]
theorem rgs_length (l : List Rg) : (rgs l).length = l.length * 2 := by
  induction l with
  | nil => rfl
  | cons f r ih => rw [rgs_cons, List.length_append, ih]; simp [rgl]; omega
theorem rgs_get (l : List Rg) (k : Nat) (f : Rg) (h : l[k]? = some f) (j : Nat) (hj : j < 2) : (rgs l)[k * 2 + j]? = (rgl f)[j]? := by
  induction l generalizing k with
  | nil => simp at h
  | cons g r ih =>
    rw [rgs_cons]
    cases k with
    | zero =>
      simp at h; subst h
      rw [Nat.zero_mul, Nat.zero_add, List.getElem?_append_left (by simpa [rgl] using hj)]
    | succ k =>
      simp at h
      rw [List.getElem?_append_right (by simp [rgl]; omega)]
      have : (k + 1) * 2 + j - (rgl g).length = k * 2 + j := by simp [rgl]; omega
      rw [this, ih k h]
theorem rgs_0 {l : List Rg} {k : Nat} {f : Rg} (h : l[k]? = some f) : (rgs l)[k * 2]? = some (.int .i64 f.lo) := by
  have := rgs_get l k f h 0 (by omega); simpa [rgl] using this
theorem rgs_1 {l : List Rg} {k : Nat} {f : Rg} (h : l[k]? = some f) : (rgs l)[k * 2 + 1]? = some (.int .i64 f.hi) := by
  have := rgs_get l k f h 1 (by omega); simpa [rgl] using this
/-- One range of a row laid anew, cell by cell. -/
theorem rgs_set (l : List Rg) (k : Nat) (f : Rg) (h : k < l.length) : ((rgs l).set (k * 2) (.int .i64 f.lo)).set (k * 2 + 1) (.int .i64 f.hi) = rgs (l.set k f) := by
  apply List.ext_getElem?
  intro i
  obtain ⟨q, j, rfl, hj⟩ : ∃ q j, i = q * 2 + j ∧ j < 2 := ⟨i / 2, i % 2, by omega, Nat.mod_lt _ (by omega)⟩
  by_cases hq : q < l.length
  · by_cases e : q = k
    · subst e
      rw [rgs_get (l.set q f) q f (by simp [hq]) j hj]
      have hl : (rgs l).length = l.length * 2 := rgs_length l
      match j, hj with
      | 0, _ => simp [List.getElem?_set, rgl]; omega
      | 1, _ => simp [List.getElem?_set, rgl]; omega
    · rw [rgs_get (l.set k f) q l[q] (by rw [List.getElem?_set_ne (by omega), List.getElem?_eq_getElem hq]) j hj, ← rgs_get l q l[q] (List.getElem?_eq_getElem hq) j hj]
      rw [List.getElem?_set_ne (by omega), List.getElem?_set_ne (by omega)]
  · rw [List.getElem?_eq_none (by simp [rgs_length]; omega), List.getElem?_eq_none (by simp [rgs_length]; omega)]
/-- The upper end alone laid anew. -/
theorem rgs_setHi (l : List Rg) (k : Nat) (f : Rg) (x : Int) (h : l[k]? = some f) : (rgs l).set (k * 2 + 1) (.int .i64 x) = rgs (l.set k ⟨f.lo, x⟩) := by
  have hk : k < l.length := (List.getElem?_eq_some_iff.1 h).1
  rw [← rgs_set l k ⟨f.lo, x⟩ hk]
  have e : (rgs l).set (k * 2) (.int .i64 f.lo) = rgs l := by
    apply List.ext_getElem?
    intro i
    by_cases hi : k * 2 = i
    · subst hi
      rw [List.getElem?_set_self (by rw [rgs_length]; omega), rgs_0 h]
    · rw [List.getElem?_set_ne hi]
  rw [e]

def rg0 : Rg := ⟨0, 0⟩
/- Sets of numbers. -/
/-- Ranges in order, none meeting the one ahead of it, whose upper end is p. -/
def okFrom : Int → List Rg → Bool
  | _, [] => true
  | p, r :: t => decide (1 ≤ r.lo) && decide (r.lo ≤ r.hi) && decide (r.hi ≤ 9999) && decide (p + 1 < r.lo) && okFrom r.hi t
def okS (s : List Rg) : Bool := okFrom (-1) s && decide (s.length ≤ 40)
def hasB (s : List Rg) (n : Int) : Bool := s.any fun r => decide (r.lo ≤ n) && decide (n ≤ r.hi)

theorem okFrom_cons {p : Int} {r : Rg} {t : List Rg} : okFrom p (r :: t) = true ↔ 1 ≤ r.lo ∧ r.lo ≤ r.hi ∧ r.hi ≤ 9999 ∧ p + 1 < r.lo ∧ okFrom r.hi t = true := by
  simp [okFrom, and_assoc]
theorem hasB_cons (r : Rg) (t : List Rg) (n : Int) : hasB (r :: t) n = ((decide (r.lo ≤ n) && decide (n ≤ r.hi)) || hasB t n) := by simp [hasB]
theorem hasB_append (a b : List Rg) (n : Int) : hasB (a ++ b) n = (hasB a n || hasB b n) := by simp [hasB]
theorem hasB_nil (n : Int) : hasB [] n = false := rfl
/-- All of a right row lies beyond what is ahead of it, and up to 9999. -/
theorem has_low {p : Int} {t : List Rg} (h : okFrom p t = true) {n : Int} (hn : hasB t n = true) : p + 1 < n ∧ 1 ≤ n ∧ n ≤ 9999 := by
  induction t generalizing p with
  | nil => simp [hasB] at hn
  | cons r t ih =>
    rw [okFrom_cons] at h
    rw [hasB_cons] at hn
    obtain ⟨h1, h2, h3, h4, h5⟩ := h
    rcases Bool.or_eq_true _ _ ▸ hn with hx | hx
    · simp at hx; omega
    · have := ih h5 hx
      omega
theorem hasB_no {p : Int} {t : List Rg} (h : okFrom p t = true) {n : Int} (hn : n ≤ p + 1) : hasB t n = false := by
  cases hx : hasB t n with
  | false => rfl
  | true => have := has_low h hx; omega

/-- Two right rows with the same numbers are the same. -/
theorem set_unique : ∀ (s t : List Rg) (p q : Int), okFrom p s = true → okFrom q t = true → (∀ n, hasB s n = hasB t n) → s = t := by
  intro s
  induction s with
  | nil =>
    intro t p q hs ht h
    cases t with
    | nil => rfl
    | cons u t =>
      rw [okFrom_cons] at ht
      have := h u.lo
      rw [hasB_nil, hasB_cons] at this
      simp at this
      omega
  | cons r s ih =>
    intro t p q hs ht h
    cases t with
    | nil =>
      rw [okFrom_cons] at hs
      have := h r.lo
      rw [hasB_nil, hasB_cons] at this
      simp at this
      omega
    | cons u t =>
      rw [okFrom_cons] at hs ht
      obtain ⟨a1, a2, a3, a4, a5⟩ := hs
      obtain ⟨b1, b2, b3, b4, b5⟩ := ht
      have below : ∀ (x : Rg) (y : List Rg), okFrom x.hi y = true → x.lo ≤ x.hi → ∀ n, n < x.lo → hasB (x :: y) n = false := by
        intro x y hy hx n hn
        rw [hasB_cons, hasB_no hy (by omega), decide_eq_false (show ¬ x.lo ≤ n by omega)]
        rfl
      have inside : ∀ (x : Rg) (y : List Rg) n, x.lo ≤ n → n ≤ x.hi → hasB (x :: y) n = true := by
        intro x y n h1 h2
        rw [hasB_cons, decide_eq_true h1, decide_eq_true h2]; rfl
      have after : ∀ (x : Rg) (y : List Rg), okFrom x.hi y = true → hasB (x :: y) (x.hi + 1) = false := by
        intro x y hy
        rw [hasB_cons, hasB_no hy (by omega), decide_eq_false (show ¬ x.hi + 1 ≤ x.hi by omega), Bool.and_false]
        rfl
      have elo : r.lo = u.lo := by
        have h1 := h r.lo; have h2 := h u.lo
        rw [inside r s r.lo (by omega) a2] at h1
        rw [inside u t u.lo (by omega) b2] at h2
        rcases Int.lt_trichotomy r.lo u.lo with hl | hl | hl
        · rw [below u t b5 b2 r.lo hl] at h1; cases h1
        · exact hl
        · rw [below r s a5 a2 u.lo hl] at h2; cases h2
      have ehi : r.hi = u.hi := by
        rcases Int.lt_trichotomy r.hi u.hi with hl | hl | hl
        · have h1 := h (r.hi + 1)
          rw [after r s a5, inside u t (r.hi + 1) (by omega) (by omega)] at h1
          cases h1
        · exact hl
        · have h1 := h (u.hi + 1)
          rw [after u t b5, inside r s (u.hi + 1) (by omega) (by omega)] at h1
          cases h1
      have e : r = u := by cases r; cases u; simp at elo ehi; rw [elo, ehi]
      subst e
      rw [ih t r.hi r.hi a5 b5 (fun n => ?_)]
      have hn := h n
      rw [hasB_cons, hasB_cons] at hn
      by_cases hr : n ≤ r.hi
      · rw [hasB_no a5 (by omega), hasB_no b5 (by omega)]
      · rw [decide_eq_false hr, Bool.and_false, Bool.false_or, Bool.false_or] at hn
        exact hn
end Go.Proofs.Ytgdihceikhkddaa.Plain

/- Sets of numbers as marks, and the ranges of what is marked. Nothing of the program stands here. -/
namespace Go.Proofs.Ytgdihceikhkddaa.Plain
set_option linter.unusedVariables false

/-- The upper end of the last one. -/
def lastHi (p : Int) (s : List Rg) : Int := (s.getLast?.map (·.hi)).getD p
theorem lastHi_nil (p : Int) : lastHi p [] = p := rfl
theorem lastHi_snoc (p : Int) (a : List Rg) (r : Rg) : lastHi p (a ++ [r]) = r.hi := by simp [lastHi]
theorem lastHi_cons (p : Int) (r : Rg) (t : List Rg) : lastHi p (r :: t) = lastHi r.hi t := by
  cases t with
  | nil => rfl
  | cons u t => unfold lastHi; rw [List.getLast?_cons_cons, List.getLast?_eq_some_getLast (by simp)]; rfl
theorem okFrom_snoc {p : Int} {a : List Rg} {r : Rg} : okFrom p (a ++ [r]) = true ↔ okFrom p a = true ∧ 1 ≤ r.lo ∧ r.lo ≤ r.hi ∧ r.hi ≤ 9999 ∧ lastHi p a + 1 < r.lo := by
  induction a generalizing p with
  | nil => rw [List.nil_append, okFrom_cons, lastHi_nil]; simp [okFrom]
  | cons u t ih =>
    rw [List.cons_append, okFrom_cons, okFrom_cons, ih, lastHi_cons]
    simp only [and_assoc]

/-- The ranges of what is marked up to n. -/
def runsTo (b : Nat → Bool) : Nat → List Rg
  | 0 => []
  | n + 1 =>
    if b (n + 1) then
      (if b n then (runsTo b n).dropLast ++ [⟨((runsTo b n).getLast?.getD rg0).lo, (n + 1 : Nat)⟩] else runsTo b n ++ [⟨(n + 1 : Nat), (n + 1 : Nat)⟩])
    else runsTo b n

theorem runsTo_off {b : Nat → Bool} {n : Nat} (h : b (n + 1) = false) : runsTo b (n + 1) = runsTo b n := by rw [runsTo, h]; rfl
theorem runsTo_new {b : Nat → Bool} {n : Nat} (h : b (n + 1) = true) (h2 : b n = false) : runsTo b (n + 1) = runsTo b n ++ [⟨(n + 1 : Nat), (n + 1 : Nat)⟩] := by rw [runsTo, h, h2]; rfl
theorem runsTo_on {b : Nat → Bool} {n : Nat} {a : List Rg} {r : Rg} (h : b (n + 1) = true) (h2 : b n = true) (hs : runsTo b n = a ++ [r]) : runsTo b (n + 1) = a ++ [⟨r.lo, (n + 1 : Nat)⟩] := by
  rw [runsTo, h, h2, hs]; simp

theorem runs_inv (b : Nat → Bool) (h0 : b 0 = false) : ∀ n, n ≤ 9999 → okFrom (-1) (runsTo b n) = true ∧ (∀ m : Int, hasB (runsTo b n) m = (decide (1 ≤ m ∧ m ≤ n) && b m.toNat)) ∧
    (b n = true → ∃ (a : List Rg) (r : Rg), runsTo b n = a ++ [r] ∧ r.hi = (n : Int)) ∧ (b n = false → lastHi (-1) (runsTo b n) < n) ∧ lastHi (-1) (runsTo b n) ≤ n := by
  intro n
  induction n with
  | zero =>
    intro _
    refine ⟨rfl, fun m => ?_, fun h => (by rw [h0] at h; cases h), fun _ => (by simp [runsTo, lastHi_nil]), by simp [runsTo, lastHi_nil]⟩
    rw [runsTo, hasB_nil]
    by_cases hm : 1 ≤ m ∧ m ≤ ((0 : Nat) : Int)
    · omega
    · rw [decide_eq_false hm]; rfl
  | succ n ih =>
    intro hn
    obtain ⟨i1, i2, i3, i4, i5⟩ := ih (by omega)
    cases hb : b (n + 1) with
    | false =>
      rw [runsTo_off hb]
      refine ⟨i1, fun m => ?_, fun h => (by cases h), fun _ => (by omega), by omega⟩
      rw [i2 m]
      by_cases hm : 1 ≤ m ∧ m ≤ (n : Int)
      · rw [decide_eq_true hm, decide_eq_true (show 1 ≤ m ∧ m ≤ ((n + 1 : Nat) : Int) by omega)]
      · by_cases hm2 : m = ((n + 1 : Nat) : Int)
        · subst hm2
          rw [decide_eq_false hm, Int.toNat_natCast, hb]; simp
        · rw [decide_eq_false hm, decide_eq_false (show ¬ (1 ≤ m ∧ m ≤ ((n + 1 : Nat) : Int)) by omega)]
    | true =>
      cases hc : b n with
      | false =>
        have hl := i4 hc
        rw [runsTo_new hb hc]
        refine ⟨okFrom_snoc.2 ⟨i1, (by show (1 : Int) ≤ ((n + 1 : Nat) : Int); omega), Int.le_refl _, (by show ((n + 1 : Nat) : Int) ≤ 9999; omega), (by show lastHi (-1) (runsTo b n) + 1 < ((n + 1 : Nat) : Int); omega)⟩, fun m => ?_, fun _ => ⟨_, _, rfl, rfl⟩, fun h => (by cases h), by rw [lastHi_snoc]; exact Int.le_refl _⟩
        rw [hasB_append, i2 m, hasB_cons, hasB_nil, Bool.or_false]
        by_cases hm2 : m = ((n + 1 : Nat) : Int)
        · subst hm2
          simp only [Int.toNat_natCast, hb]
          simp
          omega
        · by_cases hm : 1 ≤ m ∧ m ≤ (n : Int)
          · rw [decide_eq_true hm, decide_eq_true (show 1 ≤ m ∧ m ≤ ((n + 1 : Nat) : Int) by omega), decide_eq_false (show ¬ ((n + 1 : Nat) : Int) ≤ m by omega)]; simp
          · rw [decide_eq_false hm, decide_eq_false (show ¬ (1 ≤ m ∧ m ≤ ((n + 1 : Nat) : Int)) by omega)]
            by_cases hx : ((n + 1 : Nat) : Int) ≤ m
            · rw [decide_eq_false (show ¬ m ≤ ((n + 1 : Nat) : Int) by omega)]; simp
            · rw [decide_eq_false hx]; simp
      | true =>
        obtain ⟨a, r, hs, hr⟩ := i3 hc
        rw [runsTo_on hb hc hs]
        rw [hs] at i1 i2
        obtain ⟨o1, o2, o3, o4, o5⟩ := okFrom_snoc.1 i1
        refine ⟨okFrom_snoc.2 ⟨o1, o2, (by show r.lo ≤ ((n + 1 : Nat) : Int); omega), (by show ((n + 1 : Nat) : Int) ≤ 9999; omega), o5⟩, fun m => ?_, fun _ => ⟨_, _, rfl, rfl⟩, fun h => (by cases h), by rw [lastHi_snoc]; exact Int.le_refl _⟩
        have hm' := i2 m
        rw [hasB_append, hasB_cons, hasB_nil, Bool.or_false] at hm' ⊢
        simp only [hr] at hm'
        by_cases hm2 : m = ((n + 1 : Nat) : Int)
        · subst hm2
          simp only [Int.toNat_natCast, hb]
          rw [decide_eq_true (show r.lo ≤ ((n + 1 : Nat) : Int) by omega), decide_eq_true (Int.le_refl ((n + 1 : Nat) : Int)), decide_eq_true (show 1 ≤ ((n + 1 : Nat) : Int) ∧ ((n + 1 : Nat) : Int) ≤ ((n + 1 : Nat) : Int) by omega)]
          simp
        · by_cases hm : m ≤ (n : Int)
          · rw [decide_eq_true hm] at hm'
            rw [decide_eq_true (show m ≤ ((n + 1 : Nat) : Int) by omega), hm']
            by_cases h1 : 1 ≤ m
            · rw [decide_eq_true (show 1 ≤ m ∧ m ≤ (n : Int) by omega), decide_eq_true (show 1 ≤ m ∧ m ≤ ((n + 1 : Nat) : Int) by omega)]
            · rw [decide_eq_false (show ¬ (1 ≤ m ∧ m ≤ (n : Int)) by omega), decide_eq_false (show ¬ (1 ≤ m ∧ m ≤ ((n + 1 : Nat) : Int)) by omega)]
          · rw [decide_eq_false hm, Bool.and_false, Bool.or_false, decide_eq_false (show ¬ (1 ≤ m ∧ m ≤ (n : Int)) by omega), Bool.false_and] at hm'
            rw [hm', decide_eq_false (show ¬ m ≤ ((n + 1 : Nat) : Int) by omega), decide_eq_false (show ¬ (1 ≤ m ∧ m ≤ ((n + 1 : Nat) : Int)) by omega)]
            simp

theorem runs_len (b : Nat → Bool) : ∀ n, (runsTo b n).length ≤ n := by
  intro n
  induction n with
  | zero => simp [runsTo]
  | succ n ih =>
    rw [runsTo]
    split
    · split
      · simp; omega
      · simp; omega
    · omega

/-- The set of what is marked. -/
def setOf (b : Nat → Bool) : List Rg := runsTo b 9999
theorem setOf_ok (b : Nat → Bool) (h0 : b 0 = false) : okFrom (-1) (setOf b) = true := (runs_inv b h0 9999 (Nat.le_refl _)).1
theorem setOf_has (b : Nat → Bool) (h0 : b 0 = false) (m : Int) : hasB (setOf b) m = (decide (1 ≤ m ∧ m ≤ 9999) && b m.toNat) := (runs_inv b h0 9999 (Nat.le_refl _)).2.1 m
/-- A right row with these numbers is that set. -/
theorem setOf_is {b : Nat → Bool} (h0 : b 0 = false) {s : List Rg} {p : Int} (h : okFrom p s = true) (hb : ∀ m : Int, 1 ≤ m → m ≤ 9999 → hasB s m = b m.toNat) : s = setOf b := by
  refine set_unique s _ p (-1) h (setOf_ok b h0) (fun n => ?_)
  rw [setOf_has b h0]
  by_cases hn : 1 ≤ n ∧ n ≤ 9999
  · rw [decide_eq_true hn, Bool.true_and, hb n hn.1 hn.2]
  · rw [decide_eq_false hn, Bool.false_and]
    cases hx : hasB s n with
    | false => rfl
    | true => have := has_low h hx; omega

def bitsOf (s : List Rg) (n : Nat) : Bool := hasB s (n : Int)
theorem bitsOf_zero {s : List Rg} {p : Int} (h : okFrom p s = true) : bitsOf s 0 = false := by
  cases hx : bitsOf s 0 with
  | false => rfl
  | true => have := has_low h hx; simp at this
theorem set_back {s : List Rg} {p : Int} (h : okFrom p s = true) : setOf (bitsOf s) = s :=
  (setOf_is (bitsOf_zero h) h (fun m h1 h2 => by unfold bitsOf; rw [Int.toNat_of_nonneg (by omega)])).symm

/-- The set of what is marked, if it is right. -/
def setV (b : Nat → Bool) : List Rg × Bool := if (setOf b).length ≤ 40 then (setOf b, true) else ([], false)
def putB (s : List Rg) (lo hi : Int) (c : Bool) (n : Nat) : Bool := if lo ≤ (n : Int) ∧ (n : Int) ≤ hi then c else bitsOf s n
/-- A set with some put in or taken out. -/
def putV (s : List Rg) (lo hi : Int) (c : Bool) : List Rg × Bool :=
  if okS s = true ∧ 1 ≤ lo ∧ lo ≤ hi ∧ hi ≤ 9999 then (if (setOf (putB s lo hi c)).length ≤ 40 then (setOf (putB s lo hi c), true) else (s, false)) else (s, false)
end Go.Proofs.Ytgdihceikhkddaa.Plain

/- Plain facts on the reading of a number out of bytes. Nothing of the program stands here. -/
namespace Go.Proofs.Ytgdihceikhkddaa.Plain
open Go.RowKit

/-- The bytes from A on, up to k. -/
def seg (l : List UInt8) (A k : Nat) : List UInt8 := (l.take k).drop A

theorem seg_length {l : List UInt8} {A k : Nat} (h2 : k ≤ l.length) : (seg l A k).length = k - A := by
  unfold seg; rw [List.length_drop, List.length_take]; omega

theorem seg_same (l : List UInt8) (A : Nat) : seg l A A = [] := by
  unfold seg; apply List.eq_nil_of_length_eq_zero; rw [List.length_drop, List.length_take]; omega

theorem seg_succ {l : List UInt8} {A k : Nat} {b : UInt8} (h1 : A ≤ k) (hb : l[k]? = some b) : seg l A (k + 1) = seg l A k ++ [b] := by
  have hk : k < l.length := (List.getElem?_eq_some_iff.1 hb).1
  have e : l[k] = b := (List.getElem?_eq_some_iff.1 hb).2
  unfold seg
  rw [List.take_succ_eq_append_getElem hk, List.drop_append_of_le_length (by rw [List.length_take]; omega), e]

theorem drop_eq {l : List UInt8} {k : Nat} {b : UInt8} (hb : l[k]? = some b) : l.drop k = b :: l.drop (k + 1) := by
  have hk : k < l.length := (List.getElem?_eq_some_iff.1 hb).1
  have e : l[k] = b := (List.getElem?_eq_some_iff.1 hb).2
  rw [List.drop_eq_getElem_cons hk, e]

/-- Behind some rounds of the reading. -/
def RdInv (l : List UInt8) (A k n sc : Nat) : Prop :=
  A ≤ k ∧ k ≤ l.length ∧ k ≤ A + 5 ∧ n = valL (seg l A k) ∧ sc = 128 ^ (k - A) ∧ (∀ x ∈ seg l A k, 128 ≤ x.toNat) ∧
    rdL 5 [] (l.drop A) = rdL (5 - (k - A)) (seg l A k) (l.drop k)

/-- The number, a byte later. -/
def rdn (m c x : Nat) : Nat := m + x % 128 * c

theorem RdInv.step {l : List UInt8} {A k n sc : Nat} {b : UInt8} (h : RdInv l A k n sc) (hb : l[k]? = some b) (hk : k < A + 5) (h128 : 128 ≤ b.toNat) :
    RdInv l A (k + 1) (rdn n sc b.toNat) (sc * 128) := by
  obtain ⟨h1, h2, h3, h4, h5, h6, h7⟩ := h
  have hkl : k < l.length := (List.getElem?_eq_some_iff.1 hb).1
  refine ⟨by omega, by omega, by omega, ?_, ?_, ?_, ?_⟩
  · rw [seg_succ h1 hb, valL_append, seg_length h2, ← h4, ← h5]; rfl
  · rw [show k + 1 - A = (k - A) + 1 from by omega, Nat.pow_succ, h5]
  · rw [seg_succ h1 hb]
    intro x hx
    rcases List.mem_append.1 hx with hx | hx
    · exact h6 x hx
    · simp at hx; subst hx; exact h128
  · rw [h7, drop_eq hb, show 5 - (k - A) = (5 - (k + 1 - A)) + 1 from by omega, seg_succ h1 hb]
    rw [rdL, if_neg (by omega)]

theorem RdInv.last {l : List UInt8} {A k n sc : Nat} {b : UInt8} (h : RdInv l A k n sc) (hb : l[k]? = some b) (hk : k < A + 5) (h128 : b.toNat < 128) :
    rdL 5 [] (l.drop A) = if rdn n sc b.toNat ≤ 1000000000 ∧ varL (rdn n sc b.toNat) = seg l A (k + 1) then some (rdn n sc b.toNat, k + 1 - A) else none := by
  obtain ⟨h1, h2, h3, h4, h5, h6, h7⟩ := h
  have hn : rdn n sc b.toNat = valL (seg l A k ++ [b]) := by rw [valL_append, seg_length h2, ← h4, ← h5]; rfl
  rw [hn, seg_succ h1 hb, h7, drop_eq hb, show 5 - (k - A) = (5 - (k + 1 - A)) + 1 from by omega, rdL, if_pos h128, seg_length h2, show k - A + 1 = k + 1 - A from by omega]

end Go.Proofs.Ytgdihceikhkddaa.Plain

/- The set that a text tells, plainly. Nothing of the program stands here. -/
namespace Go.Proofs.Ytgdihceikhkddaa.Plain
open Go.RowKit
set_option linter.unusedVariables false

/-- Pieces with c between. -/
def cutsL (c : UInt8) : List UInt8 → List (List UInt8)
  | [] => [[]]
  | b :: r => if b = c then [] :: cutsL c r else match cutsL c r with
    | h :: t => (b :: h) :: t
    | [] => [[b]]
theorem cuts_one {c : UInt8} : ∀ (p : List UInt8), (∀ b ∈ p, b ≠ c) → cutsL c p = [p] := by
  intro p
  induction p with
  | nil => intro _; rfl
  | cons b r ih =>
    intro h
    rw [cutsL, if_neg (h b (by simp)), ih (fun x hx => h x (by simp [hx]))]
theorem cuts_at {c : UInt8} : ∀ (p r : List UInt8), (∀ b ∈ p, b ≠ c) → cutsL c (p ++ c :: r) = p :: cutsL c r := by
  intro p
  induction p with
  | nil => intro r _; rw [List.nil_append, cutsL, if_pos rfl]
  | cons b q ih =>
    intro r h
    rw [List.cons_append, cutsL, if_neg (h b (by simp)), ih r (fun x hx => h x (by simp [hx]))]

/-- Behind some rounds of the reading. -/
def CutInv (l : List UInt8) (i b : Nat) (done : List (List UInt8)) : Prop :=
  (i ≤ l.length ∧ b ≤ i ∧ done ++ cutsL 44 (l.drop b) = cutsL 44 l ∧ ∀ x ∈ seg l b i, x ≠ 44) ∨ (i = l.length + 1 ∧ done = cutsL 44 l)
theorem CutInv.on {l : List UInt8} {i b : Nat} {done : List (List UInt8)} {x : UInt8} (h : CutInv l i b done) (hx : l[i]? = some x) (hn : x ≠ 44) : CutInv l (i + 1) b done := by
  have hi : i < l.length := (List.getElem?_eq_some_iff.1 hx).1
  rcases h with ⟨h1, h2, h3, h4⟩ | ⟨h1, _⟩
  · refine .inl ⟨by omega, by omega, h3, fun y hy => ?_⟩
    rw [seg_succ h2 hx] at hy
    rcases List.mem_append.1 hy with hy | hy
    · exact h4 y hy
    · simp at hy; rw [hy]; exact hn
  · omega
theorem drop_seg {l : List UInt8} {b i : Nat} (h : b ≤ i) : l.drop b = seg l b i ++ l.drop i := by
  unfold seg
  rw [List.drop_take]
  have : l.drop i = (l.drop b).drop (i - b) := by rw [List.drop_drop]; congr 1; omega
  rw [this, List.take_append_drop]
theorem CutInv.cut {l : List UInt8} {i b : Nat} {done : List (List UInt8)} (h : CutInv l i b done) (hi : i ≤ l.length) (hx : i = l.length ∨ l[i]? = some 44) : CutInv l (i + 1) (i + 1) (done ++ [seg l b i]) ∧ b ≤ i := by
  rcases h with ⟨h1, h2, h3, h4⟩ | ⟨h1, _⟩
  · refine ⟨?_, h2⟩
    rcases hx with e | e
    · refine .inr ⟨by omega, ?_⟩
      rw [← h3]
      congr 1
      rw [drop_seg h2, e, List.drop_length, List.append_nil, ← e]
      exact (cuts_one _ h4).symm
    · have hl : i < l.length := (List.getElem?_eq_some_iff.1 e).1
      refine .inl ⟨by omega, Nat.le_refl _, ?_, by rw [seg_same]; intro x hx; cases hx⟩
      rw [← h3, drop_seg h2, drop_eq e, cuts_at _ _ h4]
      simp
  · omega
theorem CutInv.parts {l : List UInt8} {i b : Nat} {done : List (List UInt8)} (h : CutInv l i b done) : ∃ r, done ++ r = cutsL 44 l := by
  rcases h with ⟨_, _, h3, _⟩ | ⟨_, h2⟩
  · exact ⟨_, h3⟩
  · exact ⟨[], by simpa using h2⟩
theorem CutInv.done {l : List UInt8} {i b : Nat} {done : List (List UInt8)} (h : CutInv l i b done) (hi : ¬ i ≤ l.length) : done = cutsL 44 l := by
  rcases h with ⟨h1, _⟩ | ⟨_, h2⟩
  · exact absurd h1 hi
  · exact h2
theorem CutInv.le {l : List UInt8} {i b : Nat} {done : List (List UInt8)} (h : CutInv l i b done) : i ≤ l.length + 1 := by
  rcases h with ⟨h1, _⟩ | ⟨h1, _⟩ <;> omega
end Go.Proofs.Ytgdihceikhkddaa.Plain

/- Flags and their texts, plainly. Nothing of the program stands here. -/
namespace Go.Proofs.Ytgdihceikhkddaa.Plain
open Go.RowKit
set_option linter.unusedVariables false

/-- A letter made small. -/
def lowB (b : UInt8) : UInt8 := if 65 ≤ b.toNat ∧ b.toNat ≤ 90 then UInt8.ofNat (b.toNat + 32) else b
/-- Behind some rounds of a cutting at c. -/
def CutC (c : UInt8) (l : List UInt8) (i b : Nat) (done : List (List UInt8)) : Prop :=
  (i ≤ l.length ∧ b ≤ i ∧ done ++ cutsL c (l.drop b) = cutsL c l ∧ ∀ x ∈ seg l b i, x ≠ c) ∨ (i = l.length + 1 ∧ done = cutsL c l)
theorem CutC.on {c : UInt8} {l : List UInt8} {i b : Nat} {done : List (List UInt8)} {x : UInt8} (h : CutC c l i b done) (hx : l[i]? = some x) (hn : x ≠ c) : CutC c l (i + 1) b done := by
  have hi : i < l.length := (List.getElem?_eq_some_iff.1 hx).1
  rcases h with ⟨h1, h2, h3, h4⟩ | ⟨h1, _⟩
  · refine .inl ⟨by omega, by omega, h3, fun y hy => ?_⟩
    rw [seg_succ h2 hx] at hy
    rcases List.mem_append.1 hy with hy | hy
    · exact h4 y hy
    · simp at hy; rw [hy]; exact hn
  · omega
theorem CutC.cut {c : UInt8} {l : List UInt8} {i b : Nat} {done : List (List UInt8)} (h : CutC c l i b done) (hi : i ≤ l.length) (hx : i = l.length ∨ l[i]? = some c) : CutC c l (i + 1) (i + 1) (done ++ [seg l b i]) ∧ b ≤ i := by
  rcases h with ⟨h1, h2, h3, h4⟩ | ⟨h1, _⟩
  · refine ⟨?_, h2⟩
    rcases hx with e | e
    · refine .inr ⟨by omega, ?_⟩
      rw [← h3]
      congr 1
      rw [drop_seg h2, e, List.drop_length, List.append_nil, ← e]
      exact (cuts_one _ h4).symm
    · have hl : i < l.length := (List.getElem?_eq_some_iff.1 e).1
      refine .inl ⟨by omega, Nat.le_refl _, ?_, by rw [seg_same]; intro x hx; cases hx⟩
      rw [← h3, drop_seg h2, drop_eq e, cuts_at _ _ h4]
      simp
  · omega
theorem CutC.parts {c : UInt8} {l : List UInt8} {i b : Nat} {done : List (List UInt8)} (h : CutC c l i b done) : ∃ r, done ++ r = cutsL c l := by
  rcases h with ⟨_, _, h3, _⟩ | ⟨_, h2⟩
  · exact ⟨_, h3⟩
  · exact ⟨[], by simpa using h2⟩
theorem CutC.done {c : UInt8} {l : List UInt8} {i b : Nat} {done : List (List UInt8)} (h : CutC c l i b done) (hi : ¬ i ≤ l.length) : done = cutsL c l := by
  rcases h with ⟨h1, _⟩ | ⟨_, h2⟩
  · exact absurd h1 hi
  · exact h2
theorem CutC.le {c : UInt8} {l : List UInt8} {i b : Nat} {done : List (List UInt8)} (h : CutC c l i b done) : i ≤ l.length + 1 := by
  rcases h with ⟨h1, _⟩ | ⟨h1, _⟩ <;> omega
end Go.Proofs.Ytgdihceikhkddaa.Plain

/- Mails, plainly: heads, bodies, subjects, parts. Nothing of the program stands here. -/
namespace Go.Proofs.Ytgdihceikhkddaa.Plain
open Go.RowKit
set_option linter.unusedVariables false

/-- What is behind the first line without anything. -/
def bodyFrom : Bool → List UInt8 → List UInt8
  | _, [] => []
  | s, b :: r => if b = 10 then (if s then r else bodyFrom true r) else bodyFrom false r
def bodyL (l : List UInt8) : List UInt8 := bodyFrom true l
end Go.Proofs.Ytgdihceikhkddaa.Plain

/- The text of a set read back; how many a set has. Nothing of the program stands here. -/
namespace Go.Proofs.Ytgdihceikhkddaa.Plain
open Go.RowKit
set_option linter.unusedVariables false

/- How many. -/
def cntTo (f : Nat → Bool) : Nat → Int
  | 0 => 0
  | n + 1 => cntTo f n + (if f (n + 1) then 1 else 0)
theorem cnt_or {f g : Nat → Bool} {N : Nat} : cntTo (fun n => f n || g n) N + cntTo (fun n => f n && g n) N = cntTo f N + cntTo g N := by
  induction N with
  | zero => rfl
  | succ N ih =>
    simp only [cntTo]
    by_cases hf : f (N + 1) = true <;> by_cases hg : g (N + 1) = true <;> simp [hf, hg] <;> omega
theorem cnt_none {N : Nat} : cntTo (fun _ => false) N = 0 := by
  induction N with
  | zero => rfl
  | succ N ih => rw [cntTo, ih]; rfl
/- The text of a number read back. -/
end Go.Proofs.Ytgdihceikhkddaa.Plain

/- How many ranges what is marked has: one for each beginning. Nothing of the program stands here. -/
namespace Go.Proofs.Ytgdihceikhkddaa.Plain
open Go.RowKit
set_option linter.unusedVariables false

def startB (b : Nat → Bool) (n : Nat) : Bool := b n && !b (n - 1)
theorem runs_count (b : Nat → Bool) (h0 : b 0 = false) : ∀ n, n ≤ 9999 → ((runsTo b n).length : Int) = cntTo (startB b) n := by
  intro n
  induction n with
  | zero => intro _; rfl
  | succ n ih =>
    intro hn
    have i := ih (by omega)
    rw [cntTo, ← i]
    unfold startB
    rw [Nat.add_sub_cancel]
    cases hb : b (n + 1) with
    | false => rw [runsTo_off hb]; simp
    | true =>
      cases hc : b n with
      | false => rw [runsTo_new hb hc]; simp
      | true =>
        obtain ⟨a, r, hs, _⟩ := (runs_inv b h0 n (by omega)).2.2.1 hc
        rw [runsTo_on hb hc hs, hs]; simp
theorem cnt_le {f g : Nat → Bool} {N : Nat} (h : ∀ n, 1 ≤ n → n ≤ N → f n = true → g n = true) : cntTo f N ≤ cntTo g N := by
  induction N with
  | zero => exact Int.le_refl _
  | succ N ih =>
    have := ih (fun n h1 h2 => h n h1 (by omega))
    simp only [cntTo]
    by_cases hf : f (N + 1) = true
    · rw [if_pos hf, if_pos (h (N + 1) (by omega) (Nat.le_refl _) hf)]; omega
    · rw [if_neg hf]
      split <;> omega
theorem cnt_one (x : Nat) : ∀ N, cntTo (fun n => decide (n = x)) N ≤ 1 ∧ (N < x → cntTo (fun n => decide (n = x)) N = 0) := by
  intro N
  induction N with
  | zero => exact ⟨by simp [cntTo], fun _ => rfl⟩
  | succ N ih =>
    rw [cntTo]
    by_cases e : N + 1 = x
    · have := ih.2 (by omega)
      rw [this]
      simp [e]
    · rw [decide_eq_false e]
      exact ⟨by simp; exact ih.1, fun h => by simp; exact ih.2 (by omega)⟩
theorem cnt_more {f g : Nat → Bool} {N x : Nat} (h : ∀ n, 1 ≤ n → n ≤ N → f n = true → g n = true ∨ n = x) : cntTo f N ≤ cntTo g N + 1 := by
  have h1 : cntTo f N ≤ cntTo (fun n => g n || decide (n = x)) N := cnt_le fun n a b hf => by
    rcases h n a b hf with e | e
    · rw [e]; rfl
    · rw [decide_eq_true e, Bool.or_true]
  have h2 := cnt_or (f := g) (g := fun n => decide (n = x)) (N := N)
  have h3 := (cnt_one x N).1
  have h4 : 0 ≤ cntTo (fun n => g n && decide (n = x)) N := by
    have := cnt_le (f := fun _ => false) (g := fun n => g n && decide (n = x)) (N := N) (fun n _ _ h => by cases h)
    rw [cnt_none] at this
    exact this
  omega
theorem set_count {s : List Rg} (h : okFrom (-1) s = true) : (s.length : Int) = cntTo (startB (bitsOf s)) 9999 := by
  have := runs_count (bitsOf s) (bitsOf_zero h) 9999 (Nat.le_refl _)
  rw [← this]
  have e := set_back h
  unfold setOf at e
  rw [e]
/-- What is put in or taken out makes one range more at most. -/
theorem put_len {s : List Rg} {lo hi : Int} {c : Bool} (h : okFrom (-1) s = true) (h1 : 1 ≤ lo) (h2 : lo ≤ hi) (h3 : hi ≤ 9999) : (setOf (putB s lo hi c)).length ≤ s.length + 1 := by
  have h0 : putB s lo hi c 0 = false := by unfold putB; rw [if_neg (by simp; omega)]; exact bitsOf_zero h
  have a := runs_count (putB s lo hi c) h0 9999 (Nat.le_refl _); have b := set_count h
  obtain ⟨ln, rfl⟩ : ∃ ln : Nat, lo = (ln : Int) := ⟨lo.toNat, by omega⟩
  obtain ⟨hn, rfl⟩ : ∃ hn : Nat, hi = (hn : Int) := ⟨hi.toNat, by omega⟩
  have k : cntTo (startB (putB s ln hn c)) 9999 ≤ cntTo (startB (bitsOf s)) 9999 + 1 := by
    refine cnt_more (x := if c then ln else hn + 1) (fun n n1 n2 hs => ?_)
    unfold startB at hs ⊢
    rw [Bool.and_eq_true] at hs
    obtain ⟨s1, s2⟩ := hs
    have s2' : putB s ln hn c (n - 1) = false := by simpa using s2
    unfold putB at s1 s2'
    cases c with
    | true =>
      by_cases e : n = ln
      · exact .inr (by rw [if_pos rfl]; exact e)
      · left
        by_cases hin : (ln : Int) ≤ (n : Int) ∧ (n : Int) ≤ (hn : Int)
        · rw [if_pos (by omega)] at s2'
          cases s2'
        · rw [if_neg hin] at s1
          by_cases hin2 : (ln : Int) ≤ ((n - 1 : Nat) : Int) ∧ ((n - 1 : Nat) : Int) ≤ (hn : Int)
          · rw [if_pos hin2] at s2'; cases s2'
          · rw [if_neg hin2] at s2'
            rw [s1, s2']; rfl
    | false =>
      by_cases e : n = hn + 1
      · exact .inr (by simp; exact e)
      · left
        by_cases hin : (ln : Int) ≤ (n : Int) ∧ (n : Int) ≤ (hn : Int)
        · rw [if_pos hin] at s1; cases s1
        · rw [if_neg hin] at s1
          by_cases hin2 : (ln : Int) ≤ ((n - 1 : Nat) : Int) ∧ ((n - 1 : Nat) : Int) ≤ (hn : Int)
          · omega
          · rw [if_neg hin2] at s2'
            rw [s1, s2']; rfl
  show (runsTo _ 9999).length ≤ _
  omega
end Go.Proofs.Ytgdihceikhkddaa.Plain

/- Sets of numbers cut into what lies ahead of a range, what it meets and what lies behind it; put together again. Nothing of the program stands here. -/
namespace Go.Proofs.Ytgdihceikhkddaa.Plain
set_option linter.unusedVariables false

/- ADDED. -/
/- A SET, EACH RANGE TURNED INTO SOME WITHIN IT. -/
/- MET. -/
/- UNITED. -/
/- WHAT IS ANSWERED. -/
theorem putV_no {s : List Rg} {lo hi : Int} {c : Bool} (h : ¬ (okS s = true ∧ 1 ≤ lo ∧ lo ≤ hi ∧ hi ≤ 9999)) : putV s lo hi c = (s, false) := if_neg h
end Go.Proofs.Ytgdihceikhkddaa.Plain

/- What the laws on sets say, plainly. Nothing of the program stands here. -/
namespace Go.Proofs.Ytgdihceikhkddaa.Plain
open Go.RowKit
set_option linter.unusedVariables false

theorem okS_of {s : List Rg} (h : okFrom (-1) s = true) (h2 : s.length ≤ 40) : okS s = true := by rw [okS, h, decide_eq_true h2]; rfl
theorem okS_two {s : List Rg} (h : okS s = true) : okFrom (-1) s = true ∧ s.length ≤ 40 := by simpa [okS] using h
theorem bits_setOf {f : Nat → Bool} (h0 : f 0 = false) {n : Nat} (h : n ≤ 9999) : bitsOf (setOf f) n = f n := by
  unfold bitsOf
  rw [setOf_has f h0]
  by_cases hn : 1 ≤ n
  · rw [decide_eq_true (by omega), Int.toNat_natCast, Bool.true_and]
  · have e : n = 0 := by omega
    subst e
    rw [decide_eq_false (by omega), Bool.false_and, h0]
theorem put_zero {s : List Rg} {lo hi : Int} {c : Bool} (h : okS s = true) (h1 : 1 ≤ lo) : putB s lo hi c 0 = false := by
  unfold putB; rw [if_neg (by simp; omega)]; exact bitsOf_zero (okS_two h).1
/-- What is put in, or taken out, of a set that has room. -/
theorem put_room {s : List Rg} {lo hi : Int} {c : Bool} (h : okS s = true) (hr : s.length ≤ 39) (h1 : 1 ≤ lo) (h2 : lo ≤ hi) (h3 : hi ≤ 9999) : putV s lo hi c = (setOf (putB s lo hi c), true) ∧ okS (setOf (putB s lo hi c)) = true ∧ (setOf (putB s lo hi c)).length ≤ s.length + 1 := by
  have hl := put_len (c := c) (okS_two h).1 h1 h2 h3
  have h40 : (setOf (putB s lo hi c)).length ≤ 40 := by omega
  refine ⟨?_, okS_of (setOf_ok _ (put_zero h h1)) h40, hl⟩
  unfold putV
  rw [if_pos ⟨h, h1, h2, h3⟩, if_pos h40]
theorem put_has {s : List Rg} {lo hi : Int} {c : Bool} (h : okS s = true) (h1 : 1 ≤ lo) {n : Nat} (hn : n ≤ 9999) : hasB (setOf (putB s lo hi c)) (n : Int) = putB s lo hi c n := bits_setOf (put_zero h h1) hn
end Go.Proofs.Ytgdihceikhkddaa.Plain
