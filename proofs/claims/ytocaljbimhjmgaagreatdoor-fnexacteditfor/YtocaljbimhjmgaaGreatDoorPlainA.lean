/- Several texts in one: Plain, HexPlain, DecPlain, StrPlain, RangePlain, SetPlain, ReadPlain, ReadSetPlain, FlagPlain, MailPlain, SetTextPlain, RunsCount, SetCut, SetFacts. Made by fuse_tl.py. -/
import Derived.Below
import Derived.WalkKit
import Derived.Lib.ItoaLen
import Derived.Lib.Strings
/- Plain facts on bytes and numbers: the bytes of a number, seven bits a byte, and their reading. Nothing of the program stands here. -/
namespace Go.Proofs.YtocaljbimhjmgaaGreatDoor.Plain

/-- The bytes of a number, the lowest seven bits first, with fuel. -/
def varF : Nat → Nat → List UInt8
  | 0, n => [UInt8.ofNat n]
  | f + 1, n => if 127 < n then UInt8.ofNat (n % 128 + 128) :: varF f (n / 128) else [UInt8.ofNat n]

def varL (n : Nat) : List UInt8 := varF 10 n

/-- The number that bytes tell. -/
def valL : List UInt8 → Nat
  | [] => 0
  | b :: r => b.toNat % 128 + 128 * valL r

theorem varF_more (f n : Nat) (h : 127 < n) : varF (f + 1) n = UInt8.ofNat (n % 128 + 128) :: varF f (n / 128) := by
  simp [varF, h]
theorem varF_last (f n : Nat) (h : n ≤ 127) : varF f n = [UInt8.ofNat n] := by
  cases f with
  | zero => rfl
  | succ f => simp [varF]; omega

theorem valL_append (l : List UInt8) (b : UInt8) : valL (l ++ [b]) = valL l + b.toNat % 128 * 128 ^ l.length := by
  induction l with
  | nil => simp [valL]
  | cons a r ih =>
    simp only [List.cons_append, valL, ih, List.length_cons, Nat.pow_succ]
    rw [Nat.mul_add]
    have : 128 * (b.toNat % 128 * 128 ^ r.length) = b.toNat % 128 * (128 ^ r.length * 128) := by
      rw [← Nat.mul_assoc, Nat.mul_comm 128, Nat.mul_assoc, Nat.mul_comm 128]
    omega

/-- What is read: fuel, what was seen, what is ahead. -/
def rdL : Nat → List UInt8 → List UInt8 → Option (Nat × Nat)
  | 0, _, _ => none
  | _ + 1, _, [] => none
  | f + 1, pre, b :: r =>
    if b.toNat < 128 then
      if valL (pre ++ [b]) ≤ 1000000000 ∧ varL (valL (pre ++ [b])) = pre ++ [b] then some (valL (pre ++ [b]), pre.length + 1) else none
    else rdL f (pre ++ [b]) r

/-- Behind some rounds: what is written, and what is left to write. -/
def VarInv (N m : Nat) (pre : List UInt8) : Prop := ∃ f, m < 128 ^ f ∧ pre.length + f = 10 ∧ varL N = pre ++ varF f m

theorem VarInv.start (N : Nat) (h : N ≤ 34359738368) : VarInv N N [] := ⟨10, by omega, rfl, rfl⟩
theorem VarInv.step {N m : Nat} {pre : List UInt8} (h : VarInv N m pre) (hm : 127 < m) : VarInv N (m / 128) (pre ++ [UInt8.ofNat (m % 128 + 128)]) := by
  obtain ⟨f, h1, h2, h3⟩ := h
  match f, h1, h2, h3 with
  | 0, h1, _, _ => simp at h1; omega
  | f + 1, h1, h2, h3 =>
    refine ⟨f, ?_, by simp; omega, ?_⟩
    · rw [Nat.pow_succ] at h1; omega
    · rw [h3, varF_more f m hm]; simp
theorem VarInv.done {N m : Nat} {pre : List UInt8} (h : VarInv N m pre) (hm : m ≤ 127) : varL N = pre ++ [UInt8.ofNat m] := by
  obtain ⟨f, h1, h2, h3⟩ := h
  rw [h3, varF_last f m hm]
theorem VarInv.len {N m : Nat} {pre : List UInt8} (h : VarInv N m pre) : pre.length ≤ 10 := by
  obtain ⟨f, h1, h2, h3⟩ := h
  omega

theorem hide {p : Prop} (h : p) : RowKit.Hid p := h
theorem unhide {p : Prop} (h : RowKit.Hid p) : p := h
theorem below2 {w w1 w2 : World} (h1 : RowKit.Below w.heap.size w w1) (h2 : RowKit.Below w1.heap.size w1 w2) : RowKit.Below w.heap.size w w2 :=
  h1.trans (h2.mono h1.size)

end Go.Proofs.YtocaljbimhjmgaaGreatDoor.Plain

/- Plain facts on figures: two for each byte. Nothing of the program stands here. -/
namespace Go.Proofs.YtocaljbimhjmgaaGreatDoor.Plain
open Go.RowKit

/-- The figure of a number below 16. -/
def fig (x : Nat) : UInt8 := if x < 10 then UInt8.ofNat (48 + x) else UInt8.ofNat (87 + x)

theorem fig_low {x : Nat} (h : x < 10) : ((fig x).toNat : Int) = 48 + (x : Int) := by
  unfold fig; rw [if_pos h, UInt8.toNat_ofNat']; omega
theorem fig_high {x : Nat} (h : ¬ x < 10) (h2 : x < 16) : ((fig x).toNat : Int) = 87 + (x : Int) := by
  unfold fig; rw [if_neg h, UInt8.toNat_ofNat']; omega

/-- A figure, as a number, of a number. -/
def figI (x : Int) : Int := ((fig x.toNat).toNat : Int)
end Go.Proofs.YtocaljbimhjmgaaGreatDoor.Plain

/- Plain facts on decimal figures. Nothing of the program stands here. -/
namespace Go.Proofs.YtocaljbimhjmgaaGreatDoor.Plain
open Go.RowKit

/-- The figures of a number; none of 0. -/
def dz (m : Nat) : List UInt8 := if m = 0 then [] else Lib.decDigits m

theorem dz_zero : dz 0 = [] := rfl
theorem dz_pos {m : Nat} (h : m ≠ 0) : dz m = Lib.decDigits m := if_neg h
theorem fig_dec {x : Nat} (h : x < 10) : fig x = UInt8.ofNat (48 + x) := if_pos h
theorem dz_step {m : Nat} (h : m ≠ 0) : dz m = dz (m / 10) ++ [fig (m % 10)] := by
  rw [dz_pos h, fig_dec (by omega)]
  by_cases h10 : m < 10
  · rw [Lib.decDigits, dif_pos h10, show m / 10 = 0 from by omega, dz_zero, show m % 10 = m from by omega]; rfl
  · rw [Lib.decDigits, dif_neg h10, dz_pos (by omega)]
theorem dz_len {m : Nat} (h : m ≤ 9223372036854775808) : (dz m).length ≤ 20 := by
  unfold dz
  split
  · simp
  · rw [Lib.decDigits_length]; exact Lib.nDigits_le20 m (by omega)

/-- Behind some rounds: what is left, and what is written. -/
def DecInv (N m : Nat) (suf : List UInt8) : Prop := dz N = dz m ++ suf ∧ suf.length ≤ 20
theorem DecInv.start (N : Nat) : DecInv N N [] := ⟨by simp, by simp⟩
theorem DecInv.step {N m : Nat} {suf : List UInt8} (hN : N ≤ 9223372036854775808) (h : DecInv N m suf) (hm : m ≠ 0) : DecInv N (m / 10) (fig (m % 10) :: suf) := by
  have e : dz N = dz (m / 10) ++ (fig (m % 10) :: suf) := by rw [h.1, dz_step hm]; simp
  refine ⟨e, ?_⟩
  have := dz_len hN
  rw [e] at this
  simp only [List.length_append] at this
  omega
theorem DecInv.done {N : Nat} {suf : List UInt8} (h : DecInv N 0 suf) (hN : N ≠ 0) : suf = Lib.decDigits N := by
  have := h.1
  rw [dz_pos hN, dz_zero] at this
  simpa using this.symm

theorem itoa_nat {N : Nat} : Lib.itoa (N : Int) = Lib.decDigits N := by
  simp [Lib.itoa]
theorem itoa_neg {N : Nat} (h : N ≠ 0) : Lib.itoa (-(N : Int)) = 45 :: Lib.decDigits N := by
  unfold Lib.itoa
  rw [if_pos (by omega)]
  simp
theorem tmod_neg (m : Nat) : (-(m : Int)).tmod 10 = -((m % 10 : Nat) : Int) := by
  rw [Int.neg_tmod, Int.tmod_eq_emod_of_nonneg (by omega)]; rfl
theorem tdiv_neg (m : Nat) : (-(m : Int)).tdiv 10 = -((m / 10 : Nat) : Int) := by
  rw [Int.neg_tdiv, Int.tdiv_eq_ediv_of_nonneg (by omega)]; rfl
end Go.Proofs.YtocaljbimhjmgaaGreatDoor.Plain

/- Plain facts on rows of strings and on marks. Nothing of the program stands here. -/
namespace Go.Proofs.YtocaljbimhjmgaaGreatDoor.Plain
open Go.RowKit

/-- Texts as values. -/
def strs (l : List (List UInt8)) : List Value := l.map fun x => Value.string ⟨x.toArray⟩
theorem strs_length (l : List (List UInt8)) : (strs l).length = l.length := by simp [strs]
theorem strs_append (a b : List (List UInt8)) : strs (a ++ b) = strs a ++ strs b := by simp [strs]

/-- The text of a mark. -/
def mkL (k : Nat) : List UInt8 := 109 :: dz k
/-- n marks, from k0 on. -/
def marksL (k0 n : Nat) : List (List UInt8) := (List.range n).map fun i => mkL (k0 + i)
theorem marksL_length (k0 n : Nat) : (marksL k0 n).length = n := by simp [marksL]
theorem marksL_succ (k0 n : Nat) : marksL k0 (n + 1) = marksL k0 n ++ [mkL (k0 + n)] := by simp [marksL, List.range_succ]
/-- The first i are marks; the rest is as it was. -/
def markedL (k0 : Nat) (l : List (List UInt8)) (i : Nat) : List (List UInt8) := marksL k0 i ++ l.drop i
theorem markedL_zero (k0 : Nat) (l : List (List UInt8)) : markedL k0 l 0 = l := by simp [markedL, marksL]
theorem markedL_all {k0 : Nat} {l : List (List UInt8)} : markedL k0 l l.length = marksL k0 l.length := by simp [markedL]
theorem markedL_length {k0 i : Nat} {l : List (List UInt8)} (h : i ≤ l.length) : (markedL k0 l i).length = l.length := by
  simp [markedL, marksL_length]; omega
theorem markedL_set {k0 i : Nat} {l : List (List UInt8)} (h : i < l.length) : (strs (markedL k0 l i)).set i (.string ⟨(mkL (k0 + i)).toArray⟩) = strs (markedL k0 l (i + 1)) := by
  unfold markedL
  rw [strs_append, strs_append, marksL_succ, strs_append, List.drop_eq_getElem_cons h]
  rw [List.set_append_right _ _ (by rw [strs_length, marksL_length]; omega), strs_length, marksL_length, Nat.sub_self, List.append_assoc]
  simp only [strs, List.map_cons, List.set_cons_zero, List.map_nil, List.cons_append, List.nil_append]

theorem DecInv.mark {N : Nat} {suf : List UInt8} (h : DecInv N 0 suf) : suf = dz N := by
  have := h.1
  rw [dz_zero] at this
  simpa using this.symm
theorem fig_10 (m : Nat) : ((fig (m % 10)).toNat : Int) = 48 + (m : Int) % 10 := by
  rw [fig_low (by omega)]; omega
end Go.Proofs.YtocaljbimhjmgaaGreatDoor.Plain

/- Rows of ranges, plainly: their cells; sets of numbers as ranges. Nothing of the program stands here. -/
namespace Go.Proofs.YtocaljbimhjmgaaGreatDoor.Plain
set_option linter.unusedVariables false

structure Rg where
  lo : Int
  hi : Int

def rgl (r : Rg) : List Value := [.int .i64 r.lo, .int .i64 r.hi]
def rgs (l : List Rg) : List Value := l.flatMap rgl
theorem rgs_cons (r : Rg) (l : List Rg) : rgs (r :: l) = rgl r ++ rgs l := by simp [rgs]
theorem rgs_append (a b : List Rg) : rgs (a ++ b) = rgs a ++ rgs b := by simp [rgs]
theorem rgs_length (l : List Rg) : (rgs l).length = l.length * 2 := by
  induction l with
  | nil => rfl
  | cons f r ih => rw [rgs_cons, List.length_append, ih]; simp [rgl]; omega
theorem rgs_get (l : List Rg) (k : Nat) (f : Rg) (h : l[k]? = some f) (j : Nat) (hj : j < 2) : (rgs l)[k * 2 + j]? = (rgl f)[j]? := by
  induction l generalizing k with
  | nil => simp at h
  | cons g r ih =>
    rw [rgs_cons]
    cases k with
    | zero =>
      simp at h; subst h
      rw [Nat.zero_mul, Nat.zero_add, List.getElem?_append_left (by simpa [rgl] using hj)]
    | succ k =>
      simp at h
      rw [List.getElem?_append_right (by simp [rgl]; omega)]
      have : (k + 1) * 2 + j - (rgl g).length = k * 2 + j := by simp [rgl]; omega
      rw [this, ih k h]
theorem rgs_0 {l : List Rg} {k : Nat} {f : Rg} (h : l[k]? = some f) : (rgs l)[k * 2]? = some (.int .i64 f.lo) := by
  have := rgs_get l k f h 0 (by omega); simpa [rgl] using this
theorem rgs_1 {l : List Rg} {k : Nat} {f : Rg} (h : l[k]? = some f) : (rgs l)[k * 2 + 1]? = some (.int .i64 f.hi) := by
  have := rgs_get l k f h 1 (by omega); simpa [rgl] using this
/-- One range of a row laid anew, cell by cell. -/
theorem rgs_set (l : List Rg) (k : Nat) (f : Rg) (h : k < l.length) : ((rgs l).set (k * 2) (.int .i64 f.lo)).set (k * 2 + 1) (.int .i64 f.hi) = rgs (l.set k f) := by
  apply List.ext_getElem?
  intro i
  obtain ⟨q, j, rfl, hj⟩ : ∃ q j, i = q * 2 + j ∧ j < 2 := ⟨i / 2, i % 2, by omega, Nat.mod_lt _ (by omega)⟩
  by_cases hq : q < l.length
  · by_cases e : q = k
    · subst e
      rw [rgs_get (l.set q f) q f (by simp [hq]) j hj]
      have hl : (rgs l).length = l.length * 2 := rgs_length l
      match j, hj with
      | 0, _ => simp [List.getElem?_set, rgl]; omega
      | 1, _ => simp [List.getElem?_set, rgl]; omega
    · rw [rgs_get (l.set k f) q l[q] (by rw [List.getElem?_set_ne (by omega), List.getElem?_eq_getElem hq]) j hj, ← rgs_get l q l[q] (List.getElem?_eq_getElem hq) j hj]
      rw [List.getElem?_set_ne (by omega), List.getElem?_set_ne (by omega)]
  · rw [List.getElem?_eq_none (by simp [rgs_length]; omega), List.getElem?_eq_none (by simp [rgs_length]; omega)]
/-- The upper end alone laid anew. -/
theorem rgs_setHi (l : List Rg) (k : Nat) (f : Rg) (x : Int) (h : l[k]? = some f) : (rgs l).set (k * 2 + 1) (.int .i64 x) = rgs (l.set k ⟨f.lo, x⟩) := by
  have hk : k < l.length := (List.getElem?_eq_some_iff.1 h).1
  rw [← rgs_set l k ⟨f.lo, x⟩ hk]
  have e : (rgs l).set (k * 2) (.int .i64 f.lo) = rgs l := by
    apply List.ext_getElem?
    intro i
    by_cases hi : k * 2 = i
    · subst hi
      rw [List.getElem?_set_self (by rw [rgs_length]; omega), rgs_0 h]
    · rw [List.getElem?_set_ne hi]
  rw [e]

def rg0 : Rg := ⟨0, 0⟩
/-- Marks: k0, k0 + 1, .. in the cells of n ranges. -/
def mkR (k : Nat) : Rg := ⟨(k : Int), (k : Int) + 1⟩
def marksR (k0 n : Nat) : List Rg := (List.range n).map fun i => mkR (k0 + i * 2)
theorem marksR_length (k0 n : Nat) : (marksR k0 n).length = n := by simp [marksR]
theorem marksR_get {k0 n i : Nat} (h : i < n) : (marksR k0 n)[i]? = some (mkR (k0 + i * 2)) := by simp [marksR, h]
def markedR (k0 : Nat) (l : List Rg) (i : Nat) : List Rg := marksR k0 i ++ l.drop i
theorem markedR_zero (k0 : Nat) (l : List Rg) : markedR k0 l 0 = l := by simp [markedR, marksR]
theorem markedR_all {k0 : Nat} {l : List Rg} : markedR k0 l l.length = marksR k0 l.length := by simp [markedR]
theorem markedR_length {k0 i : Nat} {l : List Rg} (h : i ≤ l.length) : (markedR k0 l i).length = l.length := by simp [markedR, marksR]; omega
theorem markedR_set {k0 i : Nat} {l : List Rg} (h : i < l.length) : (markedR k0 l i).set i (mkR (k0 + i * 2)) = markedR k0 l (i + 1) := by
  unfold markedR
  rw [List.set_append_right _ _ (by simp [marksR])]
  have e : i - (marksR k0 i).length = 0 := by simp [marksR]
  rw [e, List.drop_eq_getElem_cons h, List.set_cons_zero]
  simp [marksR, List.range_succ]

/- Sets of numbers. -/
/-- Ranges in order, none meeting the one ahead of it, whose upper end is p. -/
def okFrom : Int → List Rg → Bool
  | _, [] => true
  | p, r :: t => decide (1 ≤ r.lo) && decide (r.lo ≤ r.hi) && decide (r.hi ≤ 9999) && decide (p + 1 < r.lo) && okFrom r.hi t
def okS (s : List Rg) : Bool := okFrom (-1) s && decide (s.length ≤ 40)
def hasB (s : List Rg) (n : Int) : Bool := s.any fun r => decide (r.lo ≤ n) && decide (n ≤ r.hi)

theorem okFrom_cons {p : Int} {r : Rg} {t : List Rg} : okFrom p (r :: t) = true ↔ 1 ≤ r.lo ∧ r.lo ≤ r.hi ∧ r.hi ≤ 9999 ∧ p + 1 < r.lo ∧ okFrom r.hi t = true := by
  simp [okFrom, and_assoc]
theorem hasB_cons (r : Rg) (t : List Rg) (n : Int) : hasB (r :: t) n = ((decide (r.lo ≤ n) && decide (n ≤ r.hi)) || hasB t n) := by simp [hasB]
theorem hasB_append (a b : List Rg) (n : Int) : hasB (a ++ b) n = (hasB a n || hasB b n) := by simp [hasB]
theorem hasB_nil (n : Int) : hasB [] n = false := rfl
/-- All of a right row lies beyond what is ahead of it, and up to 9999. -/
theorem has_low {p : Int} {t : List Rg} (h : okFrom p t = true) {n : Int} (hn : hasB t n = true) : p + 1 < n ∧ 1 ≤ n ∧ n ≤ 9999 := by
  induction t generalizing p with
  | nil => simp [hasB] at hn
  | cons r t ih =>
    rw [okFrom_cons] at h
    rw [hasB_cons] at hn
    obtain ⟨h1, h2, h3, h4, h5⟩ := h
    rcases Bool.or_eq_true _ _ ▸ hn with hx | hx
    · simp at hx; omega
    · have := ih h5 hx
      omega
theorem hasB_no {p : Int} {t : List Rg} (h : okFrom p t = true) {n : Int} (hn : n ≤ p + 1) : hasB t n = false := by
  cases hx : hasB t n with
  | false => rfl
  | true => have := has_low h hx; omega

/-- Two right rows with the same numbers are the same. -/
theorem set_unique : ∀ (s t : List Rg) (p q : Int), okFrom p s = true → okFrom q t = true → (∀ n, hasB s n = hasB t n) → s = t := by
  intro s
  induction s with
  | nil =>
    intro t p q hs ht h
    cases t with
    | nil => rfl
    | cons u t =>
      rw [okFrom_cons] at ht
      have := h u.lo
      rw [hasB_nil, hasB_cons] at this
      simp at this
      omega
  | cons r s ih =>
    intro t p q hs ht h
    cases t with
    | nil =>
      rw [okFrom_cons] at hs
      have := h r.lo
      rw [hasB_nil, hasB_cons] at this
      simp at this
      omega
    | cons u t =>
      rw [okFrom_cons] at hs ht
      obtain ⟨a1, a2, a3, a4, a5⟩ := hs
      obtain ⟨b1, b2, b3, b4, b5⟩ := ht
      have below : ∀ (x : Rg) (y : List Rg), okFrom x.hi y = true → x.lo ≤ x.hi → ∀ n, n < x.lo → hasB (x :: y) n = false := by
        intro x y hy hx n hn
        rw [hasB_cons, hasB_no hy (by omega), decide_eq_false (show ¬ x.lo ≤ n by omega)]
        rfl
      have inside : ∀ (x : Rg) (y : List Rg) n, x.lo ≤ n → n ≤ x.hi → hasB (x :: y) n = true := by
        intro x y n h1 h2
        rw [hasB_cons, decide_eq_true h1, decide_eq_true h2]; rfl
      have after : ∀ (x : Rg) (y : List Rg), okFrom x.hi y = true → hasB (x :: y) (x.hi + 1) = false := by
        intro x y hy
        rw [hasB_cons, hasB_no hy (by omega), decide_eq_false (show ¬ x.hi + 1 ≤ x.hi by omega), Bool.and_false]
        rfl
      have elo : r.lo = u.lo := by
        have h1 := h r.lo
        have h2 := h u.lo
        rw [inside r s r.lo (by omega) a2] at h1
        rw [inside u t u.lo (by omega) b2] at h2
        rcases Int.lt_trichotomy r.lo u.lo with hl | hl | hl
        · rw [below u t b5 b2 r.lo hl] at h1; cases h1
        · exact hl
        · rw [below r s a5 a2 u.lo hl] at h2; cases h2
      have ehi : r.hi = u.hi := by
        rcases Int.lt_trichotomy r.hi u.hi with hl | hl | hl
        · have h1 := h (r.hi + 1)
          rw [after r s a5, inside u t (r.hi + 1) (by omega) (by omega)] at h1
          cases h1
        · exact hl
        · have h1 := h (u.hi + 1)
          rw [after u t b5, inside r s (u.hi + 1) (by omega) (by omega)] at h1
          cases h1
      have e : r = u := by cases r; cases u; simp at elo ehi; rw [elo, ehi]
      subst e
      rw [ih t r.hi r.hi a5 b5 (fun n => ?_)]
      have hn := h n
      rw [hasB_cons, hasB_cons] at hn
      by_cases hr : n ≤ r.hi
      · rw [hasB_no a5 (by omega), hasB_no b5 (by omega)]
      · rw [decide_eq_false hr, Bool.and_false, Bool.false_or, Bool.false_or] at hn
        exact hn
end Go.Proofs.YtocaljbimhjmgaaGreatDoor.Plain

/- Sets of numbers as marks, and the ranges of what is marked. Nothing of the program stands here. -/
namespace Go.Proofs.YtocaljbimhjmgaaGreatDoor.Plain
set_option linter.unusedVariables false

/-- The upper end of the last one. -/
def lastHi (p : Int) (s : List Rg) : Int := (s.getLast?.map (·.hi)).getD p
theorem lastHi_nil (p : Int) : lastHi p [] = p := rfl
theorem lastHi_snoc (p : Int) (a : List Rg) (r : Rg) : lastHi p (a ++ [r]) = r.hi := by simp [lastHi]
theorem lastHi_cons (p : Int) (r : Rg) (t : List Rg) : lastHi p (r :: t) = lastHi r.hi t := by
  cases t with
  | nil => rfl
  | cons u t => unfold lastHi; rw [List.getLast?_cons_cons, List.getLast?_eq_some_getLast (by simp)]; rfl
theorem okFrom_snoc {p : Int} {a : List Rg} {r : Rg} : okFrom p (a ++ [r]) = true ↔ okFrom p a = true ∧ 1 ≤ r.lo ∧ r.lo ≤ r.hi ∧ r.hi ≤ 9999 ∧ lastHi p a + 1 < r.lo := by
  induction a generalizing p with
  | nil => rw [List.nil_append, okFrom_cons, lastHi_nil]; simp [okFrom]
  | cons u t ih =>
    rw [List.cons_append, okFrom_cons, okFrom_cons, ih, lastHi_cons]
    simp only [and_assoc]

/-- The ranges of what is marked up to n. -/
def runsTo (b : Nat → Bool) : Nat → List Rg
  | 0 => []
  | n + 1 =>
    if b (n + 1) then
      (if b n then (runsTo b n).dropLast ++ [⟨((runsTo b n).getLast?.getD rg0).lo, (n + 1 : Nat)⟩] else runsTo b n ++ [⟨(n + 1 : Nat), (n + 1 : Nat)⟩])
    else runsTo b n

theorem runsTo_off {b : Nat → Bool} {n : Nat} (h : b (n + 1) = false) : runsTo b (n + 1) = runsTo b n := by rw [runsTo, h]; rfl
theorem runsTo_new {b : Nat → Bool} {n : Nat} (h : b (n + 1) = true) (h2 : b n = false) : runsTo b (n + 1) = runsTo b n ++ [⟨(n + 1 : Nat), (n + 1 : Nat)⟩] := by rw [runsTo, h, h2]; rfl
theorem runsTo_on {b : Nat → Bool} {n : Nat} {a : List Rg} {r : Rg} (h : b (n + 1) = true) (h2 : b n = true) (hs : runsTo b n = a ++ [r]) : runsTo b (n + 1) = a ++ [⟨r.lo, (n + 1 : Nat)⟩] := by
  rw [runsTo, h, h2, hs]; simp

theorem runs_inv (b : Nat → Bool) (h0 : b 0 = false) : ∀ n, n ≤ 9999 → okFrom (-1) (runsTo b n) = true ∧ (∀ m : Int, hasB (runsTo b n) m = (decide (1 ≤ m ∧ m ≤ n) && b m.toNat)) ∧
    (b n = true → ∃ (a : List Rg) (r : Rg), runsTo b n = a ++ [r] ∧ r.hi = (n : Int)) ∧ (b n = false → lastHi (-1) (runsTo b n) < n) ∧ lastHi (-1) (runsTo b n) ≤ n := by
  intro n
  induction n with
  | zero =>
    intro _
    refine ⟨rfl, fun m => ?_, fun h => (by rw [h0] at h; cases h), fun _ => (by simp [runsTo, lastHi_nil]), by simp [runsTo, lastHi_nil]⟩
    rw [runsTo, hasB_nil]
    by_cases hm : 1 ≤ m ∧ m ≤ ((0 : Nat) : Int)
    · omega
    · rw [decide_eq_false hm]; rfl
  | succ n ih =>
    intro hn
    obtain ⟨i1, i2, i3, i4, i5⟩ := ih (by omega)
    cases hb : b (n + 1) with
    | false =>
      rw [runsTo_off hb]
      refine ⟨i1, fun m => ?_, fun h => (by cases h), fun _ => (by omega), by omega⟩
      rw [i2 m]
      by_cases hm : 1 ≤ m ∧ m ≤ (n : Int)
      · rw [decide_eq_true hm, decide_eq_true (show 1 ≤ m ∧ m ≤ ((n + 1 : Nat) : Int) by omega)]
      · by_cases hm2 : m = ((n + 1 : Nat) : Int)
        · subst hm2
          rw [decide_eq_false hm, Int.toNat_natCast, hb]; simp
        · rw [decide_eq_false hm, decide_eq_false (show ¬ (1 ≤ m ∧ m ≤ ((n + 1 : Nat) : Int)) by omega)]
    | true =>
      cases hc : b n with
      | false =>
        have hl := i4 hc
        rw [runsTo_new hb hc]
        refine ⟨okFrom_snoc.2 ⟨i1, (by show (1 : Int) ≤ ((n + 1 : Nat) : Int); omega), Int.le_refl _, (by show ((n + 1 : Nat) : Int) ≤ 9999; omega), (by show lastHi (-1) (runsTo b n) + 1 < ((n + 1 : Nat) : Int); omega)⟩, fun m => ?_, fun _ => ⟨_, _, rfl, rfl⟩, fun h => (by cases h), by rw [lastHi_snoc]; exact Int.le_refl _⟩
        rw [hasB_append, i2 m, hasB_cons, hasB_nil, Bool.or_false]
        by_cases hm2 : m = ((n + 1 : Nat) : Int)
        · subst hm2
          simp only [Int.toNat_natCast, hb]
          simp
          omega
        · by_cases hm : 1 ≤ m ∧ m ≤ (n : Int)
          · rw [decide_eq_true hm, decide_eq_true (show 1 ≤ m ∧ m ≤ ((n + 1 : Nat) : Int) by omega), decide_eq_false (show ¬ ((n + 1 : Nat) : Int) ≤ m by omega)]; simp
          · rw [decide_eq_false hm, decide_eq_false (show ¬ (1 ≤ m ∧ m ≤ ((n + 1 : Nat) : Int)) by omega)]
            by_cases hx : ((n + 1 : Nat) : Int) ≤ m
            · rw [decide_eq_false (show ¬ m ≤ ((n + 1 : Nat) : Int) by omega)]; simp
            · rw [decide_eq_false hx]; simp
      | true =>
        obtain ⟨a, r, hs, hr⟩ := i3 hc
        rw [runsTo_on hb hc hs]
        rw [hs] at i1 i2
        obtain ⟨o1, o2, o3, o4, o5⟩ := okFrom_snoc.1 i1
        refine ⟨okFrom_snoc.2 ⟨o1, o2, (by show r.lo ≤ ((n + 1 : Nat) : Int); omega), (by show ((n + 1 : Nat) : Int) ≤ 9999; omega), o5⟩, fun m => ?_, fun _ => ⟨_, _, rfl, rfl⟩, fun h => (by cases h), by rw [lastHi_snoc]; exact Int.le_refl _⟩
        have hm' := i2 m
        rw [hasB_append, hasB_cons, hasB_nil, Bool.or_false] at hm' ⊢
        simp only [hr] at hm'
        by_cases hm2 : m = ((n + 1 : Nat) : Int)
        · subst hm2
          simp only [Int.toNat_natCast, hb]
          rw [decide_eq_true (show r.lo ≤ ((n + 1 : Nat) : Int) by omega), decide_eq_true (Int.le_refl ((n + 1 : Nat) : Int)), decide_eq_true (show 1 ≤ ((n + 1 : Nat) : Int) ∧ ((n + 1 : Nat) : Int) ≤ ((n + 1 : Nat) : Int) by omega)]
          simp
        · by_cases hm : m ≤ (n : Int)
          · rw [decide_eq_true hm] at hm'
            rw [decide_eq_true (show m ≤ ((n + 1 : Nat) : Int) by omega), hm']
            by_cases h1 : 1 ≤ m
            · rw [decide_eq_true (show 1 ≤ m ∧ m ≤ (n : Int) by omega), decide_eq_true (show 1 ≤ m ∧ m ≤ ((n + 1 : Nat) : Int) by omega)]
            · rw [decide_eq_false (show ¬ (1 ≤ m ∧ m ≤ (n : Int)) by omega), decide_eq_false (show ¬ (1 ≤ m ∧ m ≤ ((n + 1 : Nat) : Int)) by omega)]
          · rw [decide_eq_false hm, Bool.and_false, Bool.or_false, decide_eq_false (show ¬ (1 ≤ m ∧ m ≤ (n : Int)) by omega), Bool.false_and] at hm'
            rw [hm', decide_eq_false (show ¬ m ≤ ((n + 1 : Nat) : Int) by omega), decide_eq_false (show ¬ (1 ≤ m ∧ m ≤ ((n + 1 : Nat) : Int)) by omega)]
            simp

theorem runs_len (b : Nat → Bool) : ∀ n, (runsTo b n).length ≤ n := by
  intro n
  induction n with
  | zero => simp [runsTo]
  | succ n ih =>
    rw [runsTo]
    split
    · split
      · simp; omega
      · simp; omega
    · omega

/-- The set of what is marked. -/
def setOf (b : Nat → Bool) : List Rg := runsTo b 9999
theorem setOf_ok (b : Nat → Bool) (h0 : b 0 = false) : okFrom (-1) (setOf b) = true := (runs_inv b h0 9999 (Nat.le_refl _)).1
theorem setOf_has (b : Nat → Bool) (h0 : b 0 = false) (m : Int) : hasB (setOf b) m = (decide (1 ≤ m ∧ m ≤ 9999) && b m.toNat) := (runs_inv b h0 9999 (Nat.le_refl _)).2.1 m
/-- A right row with these numbers is that set. -/
theorem setOf_is {b : Nat → Bool} (h0 : b 0 = false) {s : List Rg} {p : Int} (h : okFrom p s = true) (hb : ∀ m : Int, 1 ≤ m → m ≤ 9999 → hasB s m = b m.toNat) : s = setOf b := by
  refine set_unique s _ p (-1) h (setOf_ok b h0) (fun n => ?_)
  rw [setOf_has b h0]
  by_cases hn : 1 ≤ n ∧ n ≤ 9999
  · rw [decide_eq_true hn, Bool.true_and, hb n hn.1 hn.2]
  · rw [decide_eq_false hn, Bool.false_and]
    cases hx : hasB s n with
    | false => rfl
    | true => have := has_low h hx; omega

/-- The set of what is marked, if it is right. -/
def setV (b : Nat → Bool) : List Rg × Bool := if (setOf b).length ≤ 40 then (setOf b, true) else ([], false)
end Go.Proofs.YtocaljbimhjmgaaGreatDoor.Plain

/- Plain facts on the reading of a number out of bytes. Nothing of the program stands here. -/
namespace Go.Proofs.YtocaljbimhjmgaaGreatDoor.Plain
open Go.RowKit

/-- The bytes from A on, up to k. -/
def seg (l : List UInt8) (A k : Nat) : List UInt8 := (l.take k).drop A

theorem seg_length {l : List UInt8} {A k : Nat} (h2 : k ≤ l.length) : (seg l A k).length = k - A := by
  unfold seg; rw [List.length_drop, List.length_take]; omega

theorem seg_same (l : List UInt8) (A : Nat) : seg l A A = [] := by
  unfold seg; apply List.eq_nil_of_length_eq_zero; rw [List.length_drop, List.length_take]; omega

theorem seg_succ {l : List UInt8} {A k : Nat} {b : UInt8} (h1 : A ≤ k) (hb : l[k]? = some b) : seg l A (k + 1) = seg l A k ++ [b] := by
  have hk : k < l.length := (List.getElem?_eq_some_iff.1 hb).1
  have e : l[k] = b := (List.getElem?_eq_some_iff.1 hb).2
  unfold seg
  rw [List.take_succ_eq_append_getElem hk, List.drop_append_of_le_length (by rw [List.length_take]; omega), e]

theorem drop_eq {l : List UInt8} {k : Nat} {b : UInt8} (hb : l[k]? = some b) : l.drop k = b :: l.drop (k + 1) := by
  have hk : k < l.length := (List.getElem?_eq_some_iff.1 hb).1
  have e : l[k] = b := (List.getElem?_eq_some_iff.1 hb).2
  rw [List.drop_eq_getElem_cons hk, e]

/-- Behind some rounds of the reading. -/
def RdInv (l : List UInt8) (A k n sc : Nat) : Prop :=
  A ≤ k ∧ k ≤ l.length ∧ k ≤ A + 5 ∧ n = valL (seg l A k) ∧ sc = 128 ^ (k - A) ∧ (∀ x ∈ seg l A k, 128 ≤ x.toNat) ∧
    rdL 5 [] (l.drop A) = rdL (5 - (k - A)) (seg l A k) (l.drop k)

/-- The number, a byte later. -/
def rdn (m c x : Nat) : Nat := m + x % 128 * c

theorem RdInv.start (l : List UInt8) (A : Nat) (h : A ≤ l.length) : RdInv l A A 0 1 := by
  refine ⟨Nat.le_refl _, h, by omega, ?_, ?_, ?_, ?_⟩
  · rw [seg_same]; rfl
  · simp
  · rw [seg_same]; simp
  · rw [seg_same]; simp

theorem RdInv.step {l : List UInt8} {A k n sc : Nat} {b : UInt8} (h : RdInv l A k n sc) (hb : l[k]? = some b) (hk : k < A + 5) (h128 : 128 ≤ b.toNat) :
    RdInv l A (k + 1) (rdn n sc b.toNat) (sc * 128) := by
  obtain ⟨h1, h2, h3, h4, h5, h6, h7⟩ := h
  have hkl : k < l.length := (List.getElem?_eq_some_iff.1 hb).1
  refine ⟨by omega, by omega, by omega, ?_, ?_, ?_, ?_⟩
  · rw [seg_succ h1 hb, valL_append, seg_length h2, ← h4, ← h5]; rfl
  · rw [show k + 1 - A = (k - A) + 1 from by omega, Nat.pow_succ, h5]
  · rw [seg_succ h1 hb]
    intro x hx
    rcases List.mem_append.1 hx with hx | hx
    · exact h6 x hx
    · simp at hx; subst hx; exact h128
  · rw [h7, drop_eq hb, show 5 - (k - A) = (5 - (k + 1 - A)) + 1 from by omega, seg_succ h1 hb]
    rw [rdL, if_neg (by omega)]

theorem RdInv.last {l : List UInt8} {A k n sc : Nat} {b : UInt8} (h : RdInv l A k n sc) (hb : l[k]? = some b) (hk : k < A + 5) (h128 : b.toNat < 128) :
    rdL 5 [] (l.drop A) = if rdn n sc b.toNat ≤ 1000000000 ∧ varL (rdn n sc b.toNat) = seg l A (k + 1) then some (rdn n sc b.toNat, k + 1 - A) else none := by
  obtain ⟨h1, h2, h3, h4, h5, h6, h7⟩ := h
  have hn : rdn n sc b.toNat = valL (seg l A k ++ [b]) := by rw [valL_append, seg_length h2, ← h4, ← h5]; rfl
  rw [hn, seg_succ h1 hb, h7, drop_eq hb, show 5 - (k - A) = (5 - (k + 1 - A)) + 1 from by omega, rdL, if_pos h128, seg_length h2, show k - A + 1 = k + 1 - A from by omega]

theorem RdInv.stop {l : List UInt8} {A k n sc : Nat} (h : RdInv l A k n sc) (hk : k = l.length ∨ k = A + 5) : rdL 5 [] (l.drop A) = none := by
  obtain ⟨h1, h2, h3, h4, h5, h6, h7⟩ := h
  rw [h7]
  rcases hk with e | e
  · rw [e, List.drop_length]
    cases 5 - (l.length - A) <;> rfl
  · rw [e, show 5 - (A + 5 - A) = 0 from by omega]; rfl

theorem byte_at {s : ByteArray} {k : Nat} (h : k < s.size) : s.data.toList[k]? = some s[k] := by
  rw [Array.getElem?_toList]; exact Array.getElem?_eq_getElem h

end Go.Proofs.YtocaljbimhjmgaaGreatDoor.Plain

/- The set that a text tells, plainly. Nothing of the program stands here. -/
namespace Go.Proofs.YtocaljbimhjmgaaGreatDoor.Plain
open Go.RowKit
set_option linter.unusedVariables false

/-- Pieces with c between. -/
def cutsL (c : UInt8) : List UInt8 → List (List UInt8)
  | [] => [[]]
  | b :: r => if b = c then [] :: cutsL c r else match cutsL c r with
    | h :: t => (b :: h) :: t
    | [] => [[b]]
theorem cuts_one {c : UInt8} : ∀ (p : List UInt8), (∀ b ∈ p, b ≠ c) → cutsL c p = [p] := by
  intro p
  induction p with
  | nil => intro _; rfl
  | cons b r ih =>
    intro h
    rw [cutsL, if_neg (h b (by simp)), ih (fun x hx => h x (by simp [hx]))]
theorem cuts_at {c : UInt8} : ∀ (p r : List UInt8), (∀ b ∈ p, b ≠ c) → cutsL c (p ++ c :: r) = p :: cutsL c r := by
  intro p
  induction p with
  | nil => intro r _; rw [List.nil_append, cutsL, if_pos rfl]
  | cons b q ih =>
    intro r h
    rw [List.cons_append, cutsL, if_neg (h b (by simp)), ih r (fun x hx => h x (by simp [hx]))]

def figOk (b : UInt8) : Bool := decide (48 ≤ b.toNat) && decide (b.toNat ≤ 57)
def figsV (t : List UInt8) : Int := t.foldl (fun n b => 10 * n + (b.toNat : Int) - 48) 0
theorem figsV_snoc (t : List UInt8) (b : UInt8) : figsV (t ++ [b]) = 10 * figsV t + (b.toNat : Int) - 48 := by simp [figsV]
theorem figs_from : ∀ (t : List UInt8) (n : Int), 0 ≤ n → t.all figOk = true → 0 ≤ t.foldl (fun n b => 10 * n + (b.toNat : Int) - 48) n ∧ t.foldl (fun n b => 10 * n + (b.toNat : Int) - 48) n < (n + 1) * 10 ^ t.length := by
  intro t
  induction t with
  | nil => intro n hn _; simp; omega
  | cons b t ih =>
    intro n hn h
    rw [List.all_cons, Bool.and_eq_true] at h
    have hb : 48 ≤ b.toNat ∧ b.toNat ≤ 57 := by simpa [figOk] using h.1
    obtain ⟨i1, i2⟩ := ih (10 * n + (b.toNat : Int) - 48) (by omega) h.2
    rw [List.foldl_cons, List.length_cons]
    refine ⟨i1, Int.lt_of_lt_of_le i2 ?_⟩
    have hp : (0 : Int) ≤ 10 ^ t.length := Int.pow_nonneg (by decide)
    have := Int.mul_le_mul_of_nonneg_right (show 10 * n + (b.toNat : Int) - 48 + 1 ≤ (n + 1) * 10 by omega) hp
    rw [Int.pow_succ, Int.mul_comm (10 ^ t.length) 10, ← Int.mul_assoc]
    exact this
theorem figsV_bound (t : List UInt8) (h : t.all figOk = true) : 0 ≤ figsV t ∧ figsV t < 10 ^ t.length := by
  have := figs_from t 0 (Int.le_refl _) h
  simpa [figsV] using this
/-- The number of a part. -/
def numV (t : List UInt8) (last : Int) : Int × Bool :=
  if t = [42] then (last, true)
  else if 1 ≤ t.length ∧ t.length ≤ 4 then (if t.all figOk then (figsV t, decide (1 ≤ figsV t)) else (0, false))
  else (0, false)
theorem num_ok {t : List UInt8} {last : Int} (h1 : 1 ≤ last) (h2 : last ≤ 9999) (h : (numV t last).2 = true) : 1 ≤ (numV t last).1 ∧ (numV t last).1 ≤ 9999 := by
  unfold numV at h ⊢
  split
  · exact ⟨h1, h2⟩
  · rename_i hs
    rw [if_neg hs] at h
    split
    · rename_i hl
      rw [if_pos hl] at h
      split
      · rename_i ha
        rw [if_pos ha] at h
        have := figsV_bound t ha
        have hp : (10 : Int) ^ t.length ≤ 10000 := by
          have : t.length = 1 ∨ t.length = 2 ∨ t.length = 3 ∨ t.length = 4 := by omega
          rcases this with e | e | e | e <;> rw [e] <;> decide
        have h3 : 1 ≤ figsV t := by simpa using h
        exact ⟨h3, by omega⟩
      · rename_i ha
        rw [if_neg ha] at h
        cases h
    · rename_i hl
      rw [if_neg hl] at h
      cases h
def upV (x y : Int × Bool) : Int × Int × Bool := if y.1 < x.1 then (y.1, x.1, x.2 && y.2) else (x.1, y.1, x.2 && y.2)
/-- What a part tells: i is the place of its first ':'. -/
def partV (t : List UInt8) (last : Int) : Int × Int × Bool :=
  match t.idxOf? 58 with
  | some i => upV (numV (t.take i) last) (numV (t.drop (i + 1)) last)
  | none => ((numV t last).1, (numV t last).1, (numV t last).2)
theorem part_at {t : List UInt8} {last : Int} {i : Nat} (h1 : ∀ b ∈ t.take i, b ≠ 58) (h2 : t[i]? = some 58) : partV t last = upV (numV (t.take i) last) (numV (t.drop (i + 1)) last) := by
  have hi : i < t.length := (List.getElem?_eq_some_iff.1 h2).1
  have e : t.idxOf? 58 = some i := by
    unfold List.idxOf?
    rw [List.findIdx?_eq_some_iff_getElem]
    refine ⟨hi, ?_, fun j hj => ?_⟩
    · simp [(List.getElem?_eq_some_iff.1 h2).2]
    · have hm : t[j] ∈ t.take i := by
        rw [List.mem_take_iff_getElem]
        exact ⟨j, by omega, rfl⟩
      simpa using h1 _ hm
  unfold partV
  rw [e]
theorem part_no {t : List UInt8} {last : Int} (h : ∀ b ∈ t, b ≠ 58) : partV t last = ((numV t last).1, (numV t last).1, (numV t last).2) := by
  have e : t.idxOf? 58 = none := by
    unfold List.idxOf?
    rw [List.findIdx?_eq_none_iff]
    intro x hx
    simpa using h x hx
  unfold partV
  rw [e]
theorem part_ok {t : List UInt8} {last : Int} (h1 : 1 ≤ last) (h2 : last ≤ 9999) (h : (partV t last).2.2 = true) : 1 ≤ (partV t last).1 ∧ (partV t last).1 ≤ (partV t last).2.1 ∧ (partV t last).2.1 ≤ 9999 := by
  unfold partV at h ⊢
  split
  · rename_i i hi
    rw [hi] at h
    simp only at h
    unfold upV at h ⊢
    have hb : (numV (t.take i) last).2 = true ∧ (numV (t.drop (i + 1)) last).2 = true := by
      split at h <;> simpa using h
    have a := num_ok h1 h2 hb.1
    have b := num_ok h1 h2 hb.2
    split
    · simp only; omega
    · simp only; omega
  · rename_i hi
    rw [hi] at h
    have a := num_ok h1 h2 h
    simp only
    omega
/-- What the parts mark. -/
def marksV (ps : List (List UInt8)) (last : Int) (n : Nat) : Bool := ps.any fun p => decide ((partV p last).1 ≤ (n : Int)) && decide ((n : Int) ≤ (partV p last).2.1)
theorem marksV_snoc (ps : List (List UInt8)) (p : List UInt8) (last : Int) (n : Nat) : marksV (ps ++ [p]) last n = (marksV ps last n || (decide ((partV p last).1 ≤ (n : Int)) && decide ((n : Int) ≤ (partV p last).2.1))) := by simp [marksV]
def okParts (ps : List (List UInt8)) (last : Int) : Bool := ps.all fun p => (partV p last).2.2
theorem okParts_snoc (ps : List (List UInt8)) (p : List UInt8) (last : Int) : okParts (ps ++ [p]) last = (okParts ps last && (partV p last).2.2) := by simp [okParts]
/-- The set that a text tells. -/
def readV (l : List UInt8) (last : Int) : List Rg × Bool :=
  if 1 ≤ last ∧ last ≤ 9999 ∧ okParts (cutsL 44 l) last = true then setV (marksV (cutsL 44 l) last) else ([], false)
theorem readV_no {l : List UInt8} {last : Int} (h : ¬ (1 ≤ last ∧ last ≤ 9999 ∧ okParts (cutsL 44 l) last = true)) : readV l last = ([], false) := if_neg h
theorem readV_in {l : List UInt8} {last : Int} (h : 1 ≤ last ∧ last ≤ 9999 ∧ okParts (cutsL 44 l) last = true) : readV l last = setV (marksV (cutsL 44 l) last) := if_pos h
theorem marks_zero {ps : List (List UInt8)} {last : Int} (h1 : 1 ≤ last) (h2 : last ≤ 9999) (h : okParts ps last = true) : marksV ps last 0 = false := by
  cases hx : marksV ps last 0 with
  | false => rfl
  | true =>
    unfold marksV at hx
    rw [List.any_eq_true] at hx
    obtain ⟨p, hp, hm⟩ := hx
    have ho : (partV p last).2.2 = true := by
      unfold okParts at h
      rw [List.all_eq_true] at h
      exact h p hp
    have := part_ok h1 h2 ho
    simp at hm
    omega

/-- Behind some rounds of the reading. -/
def CutInv (l : List UInt8) (i b : Nat) (done : List (List UInt8)) : Prop :=
  (i ≤ l.length ∧ b ≤ i ∧ done ++ cutsL 44 (l.drop b) = cutsL 44 l ∧ ∀ x ∈ seg l b i, x ≠ 44) ∨ (i = l.length + 1 ∧ done = cutsL 44 l)
theorem CutInv.start (l : List UInt8) : CutInv l 0 0 [] := .inl ⟨Nat.zero_le _, Nat.le_refl _, by simp, by simp [seg]⟩
theorem CutInv.on {l : List UInt8} {i b : Nat} {done : List (List UInt8)} {x : UInt8} (h : CutInv l i b done) (hx : l[i]? = some x) (hn : x ≠ 44) : CutInv l (i + 1) b done := by
  have hi : i < l.length := (List.getElem?_eq_some_iff.1 hx).1
  rcases h with ⟨h1, h2, h3, h4⟩ | ⟨h1, _⟩
  · refine .inl ⟨by omega, by omega, h3, fun y hy => ?_⟩
    rw [seg_succ h2 hx] at hy
    rcases List.mem_append.1 hy with hy | hy
    · exact h4 y hy
    · simp at hy; rw [hy]; exact hn
  · omega
theorem drop_seg {l : List UInt8} {b i : Nat} (h : b ≤ i) : l.drop b = seg l b i ++ l.drop i := by
  unfold seg
  rw [List.drop_take]
  have : l.drop i = (l.drop b).drop (i - b) := by rw [List.drop_drop]; congr 1; omega
  rw [this, List.take_append_drop]
theorem CutInv.cut {l : List UInt8} {i b : Nat} {done : List (List UInt8)} (h : CutInv l i b done) (hi : i ≤ l.length) (hx : i = l.length ∨ l[i]? = some 44) : CutInv l (i + 1) (i + 1) (done ++ [seg l b i]) ∧ b ≤ i := by
  rcases h with ⟨h1, h2, h3, h4⟩ | ⟨h1, _⟩
  · refine ⟨?_, h2⟩
    rcases hx with e | e
    · refine .inr ⟨by omega, ?_⟩
      rw [← h3]
      congr 1
      rw [drop_seg h2, e, List.drop_length, List.append_nil, ← e]
      exact (cuts_one _ h4).symm
    · have hl : i < l.length := (List.getElem?_eq_some_iff.1 e).1
      refine .inl ⟨by omega, Nat.le_refl _, ?_, by rw [seg_same]; intro x hx; cases hx⟩
      rw [← h3, drop_seg h2, drop_eq e, cuts_at _ _ h4]
      simp
  · omega
theorem CutInv.parts {l : List UInt8} {i b : Nat} {done : List (List UInt8)} (h : CutInv l i b done) : ∃ r, done ++ r = cutsL 44 l := by
  rcases h with ⟨_, _, h3, _⟩ | ⟨_, h2⟩
  · exact ⟨_, h3⟩
  · exact ⟨[], by simpa using h2⟩
theorem CutInv.stop {l : List UInt8} {i b : Nat} {done : List (List UInt8)} (h : CutInv l i b done) {last : Int} (hno : okParts done last = false) : okParts (cutsL 44 l) last = false := by
  obtain ⟨r, hr⟩ := h.parts
  rw [← hr]
  unfold okParts at hno ⊢
  rw [List.all_append, hno]; rfl
theorem CutInv.done {l : List UInt8} {i b : Nat} {done : List (List UInt8)} (h : CutInv l i b done) (hi : ¬ i ≤ l.length) : done = cutsL 44 l := by
  rcases h with ⟨h1, _⟩ | ⟨_, h2⟩
  · exact absurd h1 hi
  · exact h2
theorem CutInv.le {l : List UInt8} {i b : Nat} {done : List (List UInt8)} (h : CutInv l i b done) : i ≤ l.length + 1 := by
  rcases h with ⟨h1, _⟩ | ⟨h1, _⟩ <;> omega
end Go.Proofs.YtocaljbimhjmgaaGreatDoor.Plain

/- Flags and their texts, plainly. Nothing of the program stands here. -/
namespace Go.Proofs.YtocaljbimhjmgaaGreatDoor.Plain
open Go.RowKit
set_option linter.unusedVariables false

def seenL : List UInt8 := [115, 101, 101, 110]
def answL : List UInt8 := [97, 110, 115, 119, 101, 114, 101, 100]
def flagL : List UInt8 := [102, 108, 97, 103, 103, 101, 100]
def deleL : List UInt8 := [100, 101, 108, 101, 116, 101, 100]
def drafL : List UInt8 := [100, 114, 97, 102, 116]
def namesL : List (List UInt8) := [seenL, answL, flagL, deleL, drafL]
def flOk (b : Int) : Bool := decide (0 ≤ b) && decide (b ≤ 31)
theorem flOk_in {b : Int} (h0 : 0 ≤ b) (h1 : b ≤ 31) : flOk b = true := by unfold flOk; rw [decide_eq_true h0, decide_eq_true h1]; rfl
theorem flOk_no {b : Int} (h : ¬ (0 ≤ b ∧ b ≤ 31)) : flOk b = false := by
  unfold flOk
  by_cases h0 : 0 ≤ b
  · rw [decide_eq_false (show ¬ b ≤ 31 by omega), Bool.and_false]
  · rw [decide_eq_false h0, Bool.false_and]
/-- A letter made small. -/
def lowB (b : UInt8) : UInt8 := if 65 ≤ b.toNat ∧ b.toNat ≤ 90 then UInt8.ofNat (b.toNat + 32) else b
theorem lowB_in {b : UInt8} (h0 : 65 ≤ b.toNat) (h1 : b.toNat ≤ 90) : lowB b = UInt8.ofNat (b.toNat + 32) := if_pos ⟨h0, h1⟩
theorem lowB_no {b : UInt8} (h : ¬ (65 ≤ b.toNat ∧ b.toNat ≤ 90)) : lowB b = b := if_neg h
/-- The bit of a word; 0 of none. -/
def bitV (t : List UInt8) : Int := if t = seenL then 1 else if t = answL then 2 else if t = flagL then 4 else if t = deleL then 8 else if t = drafL then 16 else 0
theorem bitV_is (t : List UInt8) : bitV t = 0 ∨ bitV t = 1 ∨ bitV t = 2 ∨ bitV t = 4 ∨ bitV t = 8 ∨ bitV t = 16 := by
  unfold bitV
  repeat' split
  all_goals simp
/-- What words tell, one behind the other: none where a word is none, or is told twice. -/
def foldF : Option Int → List (List UInt8) → Option Int
  | x, [] => x
  | none, _ :: _ => none
  | some n, p :: r => foldF (if bitV p = 0 ∨ n / bitV p % 2 = 1 then none else some (n + bitV p)) r
theorem foldF_none (r : List (List UInt8)) : foldF none r = none := by cases r <;> rfl
theorem foldF_append (a b : List (List UInt8)) : ∀ x, foldF x (a ++ b) = foldF (foldF x a) b := by
  induction a with
  | nil => intro x; rfl
  | cons p a ih =>
    intro x
    cases x with
    | none => rw [foldF_none, foldF_none, foldF_none]
    | some n => rw [List.cons_append, foldF, foldF, ih]
def stepF (n : Int) (p : List UInt8) : Option Int := if bitV p = 0 ∨ n / bitV p % 2 = 1 then none else some (n + bitV p)
theorem foldF_snoc {a : List (List UInt8)} {n : Int} (p : List UInt8) (h : foldF (some 0) a = some n) : foldF (some 0) (a ++ [p]) = stepF n p := by
  rw [foldF_append, h]; rfl
theorem step_range {n : Int} {p : List UInt8} {m : Int} (h0 : 0 ≤ n) (h1 : n ≤ 31) (h : stepF n p = some m) : 0 ≤ m ∧ m ≤ 31 := by
  unfold stepF at h
  split at h
  · cases h
  · rename_i hn
    have e : n + bitV p = m := by simpa using h
    rcases bitV_is p with b | b | b | b | b | b <;> rw [b] at e hn <;> omega
theorem fold_range : ∀ (r : List (List UInt8)) (n m : Int), 0 ≤ n → n ≤ 31 → foldF (some n) r = some m → 0 ≤ m ∧ m ≤ 31 := by
  intro r
  induction r with
  | nil => intro n m h0 h1 h; have e : n = m := by simpa [foldF] using h
           omega
  | cons p r ih =>
    intro n m h0 h1 h
    rw [show foldF (some n) (p :: r) = foldF (stepF n p) r from rfl] at h
    cases hs : stepF n p with
    | none => rw [hs, foldF_none] at h; cases h
    | some k =>
      rw [hs] at h
      have := step_range h0 h1 hs
      exact ih k m this.1 this.2 h
def ansF (x : Option Int) : Int × Bool := match x with
  | some n => (n, true)
  | none => (0, false)
/-- What stands between the signs. -/
def inner (t : List UInt8) : List UInt8 := (t.drop 1).take (t.length - 2)
def shutF (t : List UInt8) : Bool := decide (2 ≤ t.length) && (t[0]? == some 40) && (t[t.length - 1]? == some 41)
def wordsF (s : List UInt8) : Option Int := if s = [] then some 0 else foldF (some 0) (cutsL 32 s)
/-- The bits that a text tells. -/
def readF (t : List UInt8) : Int × Bool := if shutF t = true then ansF (wordsF ((inner t).map lowB)) else (0, false)
theorem readF_no {t : List UInt8} (h : shutF t = false) : readF t = (0, false) := if_neg (by rw [h]; decide)
theorem readF_in {t : List UInt8} (h : shutF t = true) : readF t = ansF (wordsF ((inner t).map lowB)) := if_pos h
theorem words_in {s : List UInt8} (h : s ≠ []) : wordsF s = foldF (some 0) (cutsL 32 s) := if_neg h

/-- Behind some rounds of a cutting at c. -/
def CutC (c : UInt8) (l : List UInt8) (i b : Nat) (done : List (List UInt8)) : Prop :=
  (i ≤ l.length ∧ b ≤ i ∧ done ++ cutsL c (l.drop b) = cutsL c l ∧ ∀ x ∈ seg l b i, x ≠ c) ∨ (i = l.length + 1 ∧ done = cutsL c l)
theorem CutC.start (c : UInt8) (l : List UInt8) : CutC c l 0 0 [] := .inl ⟨Nat.zero_le _, Nat.le_refl _, by simp, by simp [seg]⟩
theorem CutC.on {c : UInt8} {l : List UInt8} {i b : Nat} {done : List (List UInt8)} {x : UInt8} (h : CutC c l i b done) (hx : l[i]? = some x) (hn : x ≠ c) : CutC c l (i + 1) b done := by
  have hi : i < l.length := (List.getElem?_eq_some_iff.1 hx).1
  rcases h with ⟨h1, h2, h3, h4⟩ | ⟨h1, _⟩
  · refine .inl ⟨by omega, by omega, h3, fun y hy => ?_⟩
    rw [seg_succ h2 hx] at hy
    rcases List.mem_append.1 hy with hy | hy
    · exact h4 y hy
    · simp at hy; rw [hy]; exact hn
  · omega
theorem CutC.cut {c : UInt8} {l : List UInt8} {i b : Nat} {done : List (List UInt8)} (h : CutC c l i b done) (hi : i ≤ l.length) (hx : i = l.length ∨ l[i]? = some c) : CutC c l (i + 1) (i + 1) (done ++ [seg l b i]) ∧ b ≤ i := by
  rcases h with ⟨h1, h2, h3, h4⟩ | ⟨h1, _⟩
  · refine ⟨?_, h2⟩
    rcases hx with e | e
    · refine .inr ⟨by omega, ?_⟩
      rw [← h3]
      congr 1
      rw [drop_seg h2, e, List.drop_length, List.append_nil, ← e]
      exact (cuts_one _ h4).symm
    · have hl : i < l.length := (List.getElem?_eq_some_iff.1 e).1
      refine .inl ⟨by omega, Nat.le_refl _, ?_, by rw [seg_same]; intro x hx; cases hx⟩
      rw [← h3, drop_seg h2, drop_eq e, cuts_at _ _ h4]
      simp
  · omega
theorem CutC.parts {c : UInt8} {l : List UInt8} {i b : Nat} {done : List (List UInt8)} (h : CutC c l i b done) : ∃ r, done ++ r = cutsL c l := by
  rcases h with ⟨_, _, h3, _⟩ | ⟨_, h2⟩
  · exact ⟨_, h3⟩
  · exact ⟨[], by simpa using h2⟩
theorem CutC.done {c : UInt8} {l : List UInt8} {i b : Nat} {done : List (List UInt8)} (h : CutC c l i b done) (hi : ¬ i ≤ l.length) : done = cutsL c l := by
  rcases h with ⟨h1, _⟩ | ⟨_, h2⟩
  · exact absurd h1 hi
  · exact h2
theorem CutC.le {c : UInt8} {l : List UInt8} {i b : Nat} {done : List (List UInt8)} (h : CutC c l i b done) : i ≤ l.length + 1 := by
  rcases h with ⟨h1, _⟩ | ⟨h1, _⟩ <;> omega
theorem CutC.stop {c : UInt8} {l : List UInt8} {i b : Nat} {done : List (List UInt8)} (h : CutC c l i b done) (hno : foldF (some 0) done = none) : foldF (some 0) (cutsL c l) = none := by
  obtain ⟨r, hr⟩ := h.parts
  rw [← hr, foldF_append, hno, foldF_none]

/-- What both have; what either has; what one has without the other. -/
def andTo (a b : Int) : Nat → Int
  | 0 => 0
  | k + 1 => if a / 2 ^ k % 2 = 1 ∧ b / 2 ^ k % 2 = 1 then andTo a b k + 2 ^ k else andTo a b k
end Go.Proofs.YtocaljbimhjmgaaGreatDoor.Plain

/- Mails, plainly: heads, bodies, subjects, parts. Nothing of the program stands here. -/
namespace Go.Proofs.YtocaljbimhjmgaaGreatDoor.Plain
open Go.RowKit
set_option linter.unusedVariables false

def mailOkL (l : List UInt8) : Bool := l.all (fun b => b != 0) && (decide (1 ≤ l.length) && decide (l.length ≤ 200))
/-- What is behind the first line without anything. -/
def bodyFrom : Bool → List UInt8 → List UInt8
  | _, [] => []
  | s, b :: r => if b = 10 then (if s then r else bodyFrom true r) else bodyFrom false r
def bodyL (l : List UInt8) : List UInt8 := bodyFrom true l
end Go.Proofs.YtocaljbimhjmgaaGreatDoor.Plain

/- The text of a set read back; how many a set has. Nothing of the program stands here. -/
namespace Go.Proofs.YtocaljbimhjmgaaGreatDoor.Plain
open Go.RowKit
set_option linter.unusedVariables false

/- How many. -/
/- The text of a number read back. -/
end Go.Proofs.YtocaljbimhjmgaaGreatDoor.Plain

/- How many ranges what is marked has: one for each beginning. Nothing of the program stands here. -/
namespace Go.Proofs.YtocaljbimhjmgaaGreatDoor.Plain
open Go.RowKit
set_option linter.unusedVariables false

end Go.Proofs.YtocaljbimhjmgaaGreatDoor.Plain

/- Sets of numbers cut into what lies ahead of a range, what it meets and what lies behind it; put together again. Nothing of the program stands here. -/
namespace Go.Proofs.YtocaljbimhjmgaaGreatDoor.Plain
set_option linter.unusedVariables false

theorem hasB_iff {s : List Rg} {n : Int} : hasB s n = true ↔ ∃ r ∈ s, r.lo ≤ n ∧ n ≤ r.hi := by
  unfold hasB
  rw [List.any_eq_true]
  constructor
  · rintro ⟨r, hr, h⟩
    simp at h
    exact ⟨r, hr, h⟩
  · rintro ⟨r, hr, h⟩
    exact ⟨r, hr, by simpa using h⟩
/- ADDED. -/
/- A SET, EACH RANGE TURNED INTO SOME WITHIN IT. -/
/- MET. -/
/- UNITED. -/
def uniteTo (out : List Rg) (r : Rg) : List Rg :=
  match out.getLast? with
  | some u => if r.lo ≤ u.hi + 1 then out.dropLast ++ [⟨u.lo, max u.hi r.hi⟩] else out ++ [r]
  | none => out ++ [r]
theorem uniteTo_nil (r : Rg) : uniteTo [] r = [r] := rfl
theorem uniteTo_in {o : List Rg} {u r : Rg} (h : r.lo ≤ u.hi + 1) : uniteTo (o ++ [u]) r = o ++ [⟨u.lo, max u.hi r.hi⟩] := by unfold uniteTo; simp [h]
theorem uniteTo_new {o : List Rg} {u r : Rg} (h : ¬ r.lo ≤ u.hi + 1) : uniteTo (o ++ [u]) r = o ++ [u] ++ [r] := by unfold uniteTo; simp [h]
def unitedL (l : List Rg) : List Rg := l.foldl uniteTo []
def rightR (r : Rg) : Prop := 1 ≤ r.lo ∧ r.lo ≤ r.hi ∧ r.hi ≤ 9999
theorem snoc_cases (l : List Rg) : l = [] ∨ ∃ o u, l = o ++ [u] := by
  rcases List.eq_nil_or_concat l with h | ⟨o, u, h⟩
  · exact .inl h
  · exact .inr ⟨o, u, by simpa using h⟩
theorem united_inv : ∀ (l out : List Rg), okFrom (-1) out = true → (∀ r ∈ l, rightR r) → l.Pairwise (fun x y => x.lo ≤ y.lo) → (∀ u ∈ out, ∀ r ∈ l, u.lo ≤ r.lo) →
    okFrom (-1) (l.foldl uniteTo out) = true ∧ ∀ n, hasB (l.foldl uniteTo out) n = (hasB out n || hasB l n) := by
  intro l
  induction l with
  | nil => intro out h _ _ _; exact ⟨h, fun n => by rw [List.foldl_nil, hasB_nil, Bool.or_false]⟩
  | cons r t ih =>
    intro out h hr hp ho
    rw [List.foldl_cons]
    have hrr := hr r (by simp)
    obtain ⟨r1, r2, r3⟩ := hrr
    have hpt := List.pairwise_cons.1 hp
    rcases snoc_cases out with rfl | ⟨o, u, rfl⟩
    · rw [uniteTo_nil]
      have := ih [r] (by rw [okFrom_cons]; exact ⟨r1, r2, r3, by omega, rfl⟩) (fun x hx => hr x (by simp [hx])) hpt.2 (fun x hx y hy => by rw [List.mem_singleton] at hx; subst hx; exact hpt.1 y hy)
      refine ⟨this.1, fun n => ?_⟩
      rw [this.2 n, hasB_cons r t, hasB_cons r [], hasB_nil]
      simp
    · have hs := okFrom_snoc.1 h
      have hur := ho u (by simp) r (by simp)
      by_cases c : r.lo ≤ u.hi + 1
      · rw [uniteTo_in c]
        have := ih (o ++ [⟨u.lo, max u.hi r.hi⟩]) (okFrom_snoc.2 ⟨hs.1, hs.2.1, by simp only; omega, by simp only; omega, hs.2.2.2.2⟩) (fun x hx => hr x (by simp [hx])) hpt.2 (fun x hx y hy => ?_)
        · refine ⟨this.1, fun n => ?_⟩
          rw [this.2 n, hasB_cons r t, hasB_append, hasB_append, hasB_cons, hasB_cons u [], hasB_nil]
          simp only
          have : (decide (u.lo ≤ n) && decide (n ≤ max u.hi r.hi)) = ((decide (u.lo ≤ n) && decide (n ≤ u.hi)) || (decide (r.lo ≤ n) && decide (n ≤ r.hi))) := by
            rw [Bool.eq_iff_iff]
            simp only [Bool.and_eq_true, Bool.or_eq_true, decide_eq_true_eq]
            omega
          rw [this]
          cases hasB o n <;> cases hasB t n <;> cases (decide (u.lo ≤ n) && decide (n ≤ u.hi)) <;> cases (decide (r.lo ≤ n) && decide (n ≤ r.hi)) <;> rfl
        · rcases List.mem_append.1 hx with hx | hx
          · exact ho x (by simp [hx]) y (by simp [hy])
          · rw [List.mem_singleton] at hx
            subst hx
            exact ho u (by simp) y (by simp [hy])
      · rw [uniteTo_new c]
        have := ih (o ++ [u] ++ [r]) (okFrom_snoc.2 ⟨h, r1, r2, r3, by rw [lastHi_snoc]; omega⟩) (fun x hx => hr x (by simp [hx])) hpt.2 (fun x hx y hy => ?_)
        · refine ⟨this.1, fun n => ?_⟩
          rw [this.2 n, hasB_cons r t, hasB_append (o ++ [u]) [r], hasB_cons r [], hasB_nil, Bool.or_false, Bool.or_assoc]
        · rcases List.mem_append.1 hx with hx | hx
          · exact ho x hx y (by simp [hy])
          · rw [List.mem_singleton] at hx
            subst hx
            exact hpt.1 y hy
theorem united_ok {l : List Rg} (h : ∀ r ∈ l, rightR r) (hp : l.Pairwise (fun x y => x.lo ≤ y.lo)) : okFrom (-1) (unitedL l) = true ∧ ∀ n, hasB (unitedL l) n = hasB l n := by
  have := united_inv l [] rfl h hp (fun u hu => by simp at hu)
  exact ⟨this.1, fun n => by rw [show unitedL l = l.foldl uniteTo [] from rfl, this.2 n, hasB_nil, Bool.false_or]⟩
theorem hasB_perm {l m : List Rg} (h : l.Perm m) (n : Int) : hasB l n = hasB m n := by
  rw [Bool.eq_iff_iff, hasB_iff, hasB_iff]
  constructor
  · rintro ⟨r, hr, hx⟩; exact ⟨r, h.mem_iff.1 hr, hx⟩
  · rintro ⟨r, hr, hx⟩; exact ⟨r, h.mem_iff.2 hr, hx⟩

/- WHAT IS ANSWERED. -/
theorem okS_len {t : List Rg} (h : okFrom (-1) t = true) : okS t = decide (t.length ≤ 40) := by unfold okS; rw [h, Bool.true_and]
/-- A right row, or nothing where it is too long. -/
def orNo (t : List Rg) : List Rg × Bool := if okS t = true then (t, true) else ([], false)
theorem setV_is {b : Nat → Bool} {t : List Rg} (h0 : b 0 = false) (ht : okFrom (-1) t = true) (hb : ∀ m : Int, 1 ≤ m → m ≤ 9999 → hasB t m = b m.toNat) : setV b = orNo t := by
  have e : t = setOf b := setOf_is h0 ht hb
  unfold setV orNo
  rw [← e, okS_len ht]
  by_cases hl : t.length ≤ 40
  · rw [if_pos hl, if_pos (by simpa using hl)]
  · rw [if_neg hl, if_neg (by simpa using hl)]
end Go.Proofs.YtocaljbimhjmgaaGreatDoor.Plain

/- What the laws on sets say, plainly. Nothing of the program stands here. -/
namespace Go.Proofs.YtocaljbimhjmgaaGreatDoor.Plain
open Go.RowKit
set_option linter.unusedVariables false

end Go.Proofs.YtocaljbimhjmgaaGreatDoor.Plain
