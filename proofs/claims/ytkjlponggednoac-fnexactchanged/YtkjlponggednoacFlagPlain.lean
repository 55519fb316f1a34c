/- Flags and their texts, plainly. Nothing of the program stands here. -/
import Derived.Test.YtkjlponggednoacReadSetPlain
namespace Go.Proofs.Ytkjlponggednoac.Plain
open Go.RowKit
set_option linter.unusedVariables false

def seenL : List UInt8 := [115, 101, 101, 110]
def answL : List UInt8 := [97, 110, 115, 119, 101, 114, 101, 100]
def flagL : List UInt8 := [102, 108, 97, 103, 103, 101, 100]
def deleL : List UInt8 := [100, 101, 108, 101, 116, 101, 100]
def drafL : List UInt8 := [100, 114, 97, 102, 116]
def namesL : List (List UInt8) := [seenL, answL, flagL, deleL, drafL]
def flOk (b : Int) : Bool := decide (0 ≤ b) && decide (b ≤ 31)
theorem flOk_in {b : Int} (h0 : 0 ≤ b) (h1 : b ≤ 31) : flOk b = true := by unfold flOk; rw [decide_eq_true h0, decide_eq_true h1]; rfl
theorem flOk_no {b : Int} (h : ¬ (0 ≤ b ∧ b ≤ 31)) : flOk b = false := by
  unfold flOk
  by_cases h0 : 0 ≤ b
  · rw [decide_eq_false (show ¬ b ≤ 31 by omega), Bool.and_false]
  · rw [decide_eq_false h0, Bool.false_and]
theorem flOk_parts {b : Int} (h : flOk b = true) : 0 ≤ b ∧ b ≤ 31 := by unfold flOk at h; simpa using h
/-- A word behind those that are told already. -/
def wordOn (s n : List UInt8) : List UInt8 := if s = [] then n else s ++ 32 :: n
def flTo (b : Int) : Nat → List UInt8
  | 0 => []
  | k + 1 => if b / 2 ^ k % 2 = 1 then wordOn (flTo b k) (namesL[k]?.getD []) else flTo b k
def flagsL (b : Int) : List UInt8 := if flOk b = true then 40 :: flTo b 5 ++ [41] else []
theorem flagsL_no {b : Int} (h : flOk b = false) : flagsL b = [] := if_neg (by rw [h]; decide)
theorem flagsL_in {b : Int} (h : flOk b = true) : flagsL b = 40 :: flTo b 5 ++ [41] := if_pos h
/-- A letter made small. -/
def lowB (b : UInt8) : UInt8 := if 65 ≤ b.toNat ∧ b.toNat ≤ 90 then UInt8.ofNat (b.toNat + 32) else b
theorem lowB_in {b : UInt8} (h0 : 65 ≤ b.toNat) (h1 : b.toNat ≤ 90) : lowB b = UInt8.ofNat (b.toNat + 32) := if_pos ⟨h0, h1⟩
theorem lowB_no {b : UInt8} (h : ¬ (65 ≤ b.toNat ∧ b.toNat ≤ 90)) : lowB b = b := if_neg h
/-- The bit of a word; 0 of none. -/
def bitV (t : List UInt8) : Int := if t = seenL then 1 else if t = answL then 2 else if t = flagL then 4 else if t = deleL then 8 else if t = drafL then 16 else 0
theorem bitV_is (t : List UInt8) : bitV t = 0 ∨ bitV t = 1 ∨ bitV t = 2 ∨ bitV t = 4 ∨ bitV t = 8 ∨ bitV t = 16 := by
  unfold bitV
  repeat' split
  all_goals simp
/-- What words tell, one behind the other: none where a word is none, or is told twice. -/
def foldF : Option Int → List (List UInt8) → Option Int
  | x, [] => x
  | none, _ :: _ => none
  | some n, p :: r => foldF (if bitV p = 0 ∨ n / bitV p % 2 = 1 then none else some (n + bitV p)) r
theorem foldF_none (r : List (List UInt8)) : foldF none r = none := by cases r <;> rfl
theorem foldF_append (a b : List (List UInt8)) : ∀ x, foldF x (a ++ b) = foldF (foldF x a) b := by
  induction a with
  | nil => intro x; rfl
  | cons p a ih =>
    intro x
    cases x with
    | none => rw [foldF_none, foldF_none, foldF_none]
    | some n => rw [List.cons_append, foldF, foldF, ih]
def stepF (n : Int) (p : List UInt8) : Option Int := if bitV p = 0 ∨ n / bitV p % 2 = 1 then none else some (n + bitV p)
theorem foldF_snoc {a : List (List UInt8)} {n : Int} (p : List UInt8) (h : foldF (some 0) a = some n) : foldF (some 0) (a ++ [p]) = stepF n p := by
  rw [foldF_append, h]; rfl
theorem step_range {n : Int} {p : List UInt8} {m : Int} (h0 : 0 ≤ n) (h1 : n ≤ 31) (h : stepF n p = some m) : 0 ≤ m ∧ m ≤ 31 := by
  unfold stepF at h
  split at h
  · cases h
  · rename_i hn
    have e : n + bitV p = m := by simpa using h
    rcases bitV_is p with b | b | b | b | b | b <;> rw [b] at e hn <;> omega
theorem fold_range : ∀ (r : List (List UInt8)) (n m : Int), 0 ≤ n → n ≤ 31 → foldF (some n) r = some m → 0 ≤ m ∧ m ≤ 31 := by
  intro r
  induction r with
  | nil => intro n m h0 h1 h; have e : n = m := by simpa [foldF] using h
           omega
  | cons p r ih =>
    intro n m h0 h1 h
    rw [show foldF (some n) (p :: r) = foldF (stepF n p) r from rfl] at h
    cases hs : stepF n p with
    | none => rw [hs, foldF_none] at h; cases h
    | some k =>
      rw [hs] at h
      have := step_range h0 h1 hs
      exact ih k m this.1 this.2 h
def ansF (x : Option Int) : Int × Bool := match x with
  | some n => (n, true)
  | none => (0, false)
/-- What stands between the signs. -/
def inner (t : List UInt8) : List UInt8 := (t.drop 1).take (t.length - 2)
def shutF (t : List UInt8) : Bool := decide (2 ≤ t.length) && (t[0]? == some 40) && (t[t.length - 1]? == some 41)
def wordsF (s : List UInt8) : Option Int := if s = [] then some 0 else foldF (some 0) (cutsL 32 s)
/-- The bits that a text tells. -/
def readF (t : List UInt8) : Int × Bool := if shutF t = true then ansF (wordsF ((inner t).map lowB)) else (0, false)
theorem readF_no {t : List UInt8} (h : shutF t = false) : readF t = (0, false) := if_neg (by rw [h]; decide)
theorem readF_in {t : List UInt8} (h : shutF t = true) : readF t = ansF (wordsF ((inner t).map lowB)) := if_pos h
theorem words_nil : wordsF [] = some 0 := rfl
theorem words_in {s : List UInt8} (h : s ≠ []) : wordsF s = foldF (some 0) (cutsL 32 s) := if_neg h

/-- Behind some rounds of a cutting at c. -/
def CutC (c : UInt8) (l : List UInt8) (i b : Nat) (done : List (List UInt8)) : Prop :=
  (i ≤ l.length ∧ b ≤ i ∧ done ++ cutsL c (l.drop b) = cutsL c l ∧ ∀ x ∈ seg l b i, x ≠ c) ∨ (i = l.length + 1 ∧ done = cutsL c l)
theorem CutC.start (c : UInt8) (l : List UInt8) : CutC c l 0 0 [] := .inl ⟨Nat.zero_le _, Nat.le_refl _, by simp, by simp [seg]⟩
theorem CutC.on {c : UInt8} {l : List UInt8} {i b : Nat} {done : List (List UInt8)} {x : UInt8} (h : CutC c l i b done) (hx : l[i]? = some x) (hn : x ≠ c) : CutC c l (i + 1) b done := by
  have hi : i < l.length := (List.getElem?_eq_some_iff.1 hx).1
  rcases h with ⟨h1, h2, h3, h4⟩ | ⟨h1, _⟩
  · refine .inl ⟨by omega, by omega, h3, fun y hy => ?_⟩
    rw [seg_succ h2 hx] at hy
    rcases List.mem_append.1 hy with hy | hy
    · exact h4 y hy
    · simp at hy; rw [hy]; exact hn
  · omega
theorem CutC.cut {c : UInt8} {l : List UInt8} {i b : Nat} {done : List (List UInt8)} (h : CutC c l i b done) (hi : i ≤ l.length) (hx : i = l.length ∨ l[i]? = some c) : CutC c l (i + 1) (i + 1) (done ++ [seg l b i]) ∧ b ≤ i := by
  rcases h with ⟨h1, h2, h3, h4⟩ | ⟨h1, _⟩
  · refine ⟨?_, h2⟩
    rcases hx with e | e
    · refine .inr ⟨by omega, ?_⟩
      rw [← h3]
      congr 1
      rw [drop_seg h2, e, List.drop_length, List.append_nil, ← e]
      exact (cuts_one _ h4).symm
    · have hl : i < l.length := (List.getElem?_eq_some_iff.1 e).1
      refine .inl ⟨by omega, Nat.le_refl _, ?_, by rw [seg_same]; intro x hx; cases hx⟩
      rw [← h3, drop_seg h2, drop_eq e, cuts_at _ _ h4]
      simp
  · omega
theorem CutC.parts {c : UInt8} {l : List UInt8} {i b : Nat} {done : List (List UInt8)} (h : CutC c l i b done) : ∃ r, done ++ r = cutsL c l := by
  rcases h with ⟨_, _, h3, _⟩ | ⟨_, h2⟩
  · exact ⟨_, h3⟩
  · exact ⟨[], by simpa using h2⟩
theorem CutC.done {c : UInt8} {l : List UInt8} {i b : Nat} {done : List (List UInt8)} (h : CutC c l i b done) (hi : ¬ i ≤ l.length) : done = cutsL c l := by
  rcases h with ⟨h1, _⟩ | ⟨_, h2⟩
  · exact absurd h1 hi
  · exact h2
theorem CutC.le {c : UInt8} {l : List UInt8} {i b : Nat} {done : List (List UInt8)} (h : CutC c l i b done) : i ≤ l.length + 1 := by
  rcases h with ⟨h1, _⟩ | ⟨h1, _⟩ <;> omega
theorem CutC.stop {c : UInt8} {l : List UInt8} {i b : Nat} {done : List (List UInt8)} (h : CutC c l i b done) (hno : foldF (some 0) done = none) : foldF (some 0) (cutsL c l) = none := by
  obtain ⟨r, hr⟩ := h.parts
  rw [← hr, foldF_append, hno, foldF_none]

/-- What both have; what either has; what one has without the other. -/
def andTo (a b : Int) : Nat → Int
  | 0 => 0
  | k + 1 => if a / 2 ^ k % 2 = 1 ∧ b / 2 ^ k % 2 = 1 then andTo a b k + 2 ^ k else andTo a b k
def afterV (old how bits : Int) : Int :=
  if flOk old = true ∧ flOk bits = true then
    (if how = 1 then bits else if how = 2 then old + bits - andTo old bits 5 else if how = 3 then old - andTo old bits 5 else old)
  else old
theorem afterV_no {old how bits : Int} (h : ¬ (flOk old = true ∧ flOk bits = true)) : afterV old how bits = old := if_neg h
theorem afterV_in {old how bits : Int} (h : flOk old = true ∧ flOk bits = true) : afterV old how bits = (if how = 1 then bits else if how = 2 then old + bits - andTo old bits 5 else if how = 3 then old - andTo old bits 5 else old) := if_pos h
/-- In bits: both, and without, of numbers below 32. -/
theorem or_bits : ∀ a b : Fin 32, ((a.val : Int) + b.val - andTo a.val b.val 5) = ((a.val ||| b.val : Nat) : Int) := by decide +kernel
theorem without_bits : ∀ a b : Fin 32, ((a.val : Int) - andTo a.val b.val 5) = ((a.val - (a.val &&& b.val) : Nat) : Int) := by decide +kernel
theorem and_bits : ∀ a b : Fin 32, andTo a.val b.val 5 = ((a.val &&& b.val : Nat) : Int) := by decide +kernel
/-- A text of flags is read back. -/
theorem read_back : ∀ b : Fin 32, readF (flagsL b.val) = ((b.val : Int), true) := by decide +kernel
end Go.Proofs.Ytkjlponggednoac.Plain
