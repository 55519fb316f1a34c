/- The text of a line, plainly. Made by gen_linetext.py. -/
import Derived.Test.YtgdihceikhkddaaDoorLnOk
import Derived.Test.YtgdihceikhkddaaDoorFlagA
import Derived.Test.YtgdihceikhkddaaDoorSetText
namespace Go.Proofs.YtgdihceikhkddaaDoor
open Go.RowKit Go.ChangeShapes Go.WideShapes Go.ChangeAt Go.Deep
open Plain
set_option linter.unusedVariables false
set_option linter.unusedSimpArgs false

namespace Plain
def dB (n : Int) : ByteArray := ⟨(Lib.itoa n).toArray⟩
def fB (b : Int) : ByteArray := ⟨(flagsL b).toArray⟩
def sB (l : List Rg) : ByteArray := ⟨(setTextL l).toArray⟩
def fetB (n u f m : Int) : ByteArray := ⟨#[42, 32]⟩ ++ dB n ++ ⟨#[32, 102, 101, 116, 99, 104, 32, 40, 117, 105, 100, 32]⟩ ++ dB u ++ ⟨#[32, 102, 108, 97, 103, 115, 32]⟩ ++ fB f ++ ⟨#[32, 109, 111, 100, 115, 101, 113, 32]⟩ ++ dB m ++ ⟨#[41]⟩
def valB (n m : Int) : ByteArray := ⟨#[42, 32, 118, 97, 108, 105, 100, 32]⟩ ++ dB n ++ ⟨#[32, 109, 111, 100, 115, 101, 113, 32]⟩ ++ dB m
def ltB (x : Ln) : ByteArray :=
 if x.kind = 1 then ⟨#[42, 32]⟩ ++ dB x.num ++ ⟨#[32, 101, 120, 105, 115, 116, 115]⟩
 else if x.kind = 2 then ⟨#[42, 32]⟩ ++ dB x.num ++ ⟨#[32, 101, 120, 112, 117, 110, 103, 101]⟩
 else if x.kind = 3 then fetB x.num x.uid x.flags x.mod
 else if x.kind = 4 then ⟨#[42, 32, 118, 97, 110, 105, 115, 104, 101, 100, 32]⟩ ++ sB x.set
 else if x.kind = 5 then (if x.all = true then valB x.num x.mod ++ ⟨#[32, 97, 108, 108]⟩ else valB x.num x.mod)
 else if x.kind = 6 then (if x.set.length = 0 then ⟨#[42, 32, 115, 101, 97, 114, 99, 104]⟩ else ⟨#[42, 32, 115, 101, 97, 114, 99, 104, 32]⟩ ++ sB x.set)
 else if x.kind = 7 then ⟨#[111, 107]⟩
 else if x.kind = 8 then ⟨#[110, 111, 32]⟩ ++ dB x.num
 else ⟨#[98, 121, 101]⟩
def ltV (x : Ln) : ByteArray × Bool := if lineOk x = true then (ltB x, true) else (⟨#[]⟩, false)
theorem fet_same (n u f m : Int) : ⟨#[42, 32]⟩ ++ dB n ++ ⟨#[32, 102, 101, 116, 99, 104, 32, 40]⟩ ++ (⟨#[117, 105, 100, 32]⟩ ++ dB u ++ ⟨#[32, 102, 108, 97, 103, 115, 32]⟩ ++ fB f ++ ⟨#[32, 109, 111, 100, 115, 101, 113, 32]⟩ ++ dB m) ++ ⟨#[41]⟩ = fetB n u f m := by
 unfold fetB
 generalize dB n = a
 generalize dB u = b
 generalize fB f = c
 generalize dB m = d
 apply ByteArray.ext
 apply Array.ext'
 simp
theorem dB_size {n : Int} (h0 : 0 ≤ n) (h1 : n ≤ 100000) : (dB n).size ≤ 20 := by
 show (Lib.itoa n).toArray.size ≤ 20
 obtain ⟨N, rfl⟩ := Int.eq_ofNat_of_zero_le h0
 rw [itoa_nat, List.size_toArray, Lib.decDigits_length]
 exact Lib.nDigits_le20 N (by omega)
theorem fB_size (b : Int) : (fB b).size ≤ 60 := by
 show (flagsL b).toArray.size ≤ 60
 have := flTo_len b 5 (by omega)
 unfold flagsL
 split
 ·simp; omega
 ·simp
theorem sB_size {l : List Rg} (h : l.length ≤ 1048576) : (sB l).size ≤ 100000000 := by
 show (setTextL l).toArray.size ≤ 100000000
 cases ho : okS l with
 | false => rw [setTextL_no ho]; simp
 | true =>
  rw [setTextL_in ho, List.size_toArray]
  have o2 := ho
  unfold okS at o2
  rw [Bool.and_eq_true, decide_eq_true_eq] at o2
  have := textTo_len o2.1 l.length (Nat.le_refl _)
  omega
/-- What a right line's numbers are. -/
theorem line_nums {x : Ln} (h : lineOk x = true) : (0 ≤ x.num ∧ x.num ≤ 9999) ∧ (0 ≤ x.uid ∧ x.uid ≤ 9999) ∧ (0 ≤ x.mod ∧ x.mod ≤ 100000) ∧ inI x.kind 1 9 = true := by
 have hk : inI x.kind 1 9 = true := by
  cases hk : inI x.kind 1 9 with
  | true => rfl
  | false => rw [lineOk_no hk] at h; cases h
 rcases kinds9 hk with h1 | h1 | h1 | h1 | h1 | h1 | h1 | h1 | h1
 ·rw [lineOk_1 h1] at h; simp [inI] at h; refine ⟨?_, ?_, ?_, hk⟩ <;> omega
 ·rw [lineOk_2 h1] at h; simp [inI] at h; refine ⟨?_, ?_, ?_, hk⟩ <;> omega
 ·rw [lineOk_3 h1] at h; simp [inI] at h; refine ⟨?_, ?_, ?_, hk⟩ <;> omega
 ·rw [lineOk_4 h1] at h; simp [inI] at h; refine ⟨?_, ?_, ?_, hk⟩ <;> omega
 ·rw [lineOk_5 h1] at h; simp [inI] at h; refine ⟨?_, ?_, ?_, hk⟩ <;> omega
 ·rw [lineOk_6 h1] at h; simp [inI] at h; refine ⟨?_, ?_, ?_, hk⟩ <;> omega
 ·rw [lineOk_7 h1] at h; simp [inI] at h; refine ⟨?_, ?_, ?_, hk⟩ <;> omega
 ·rw [lineOk_8 h1] at h; simp [inI] at h; refine ⟨?_, ?_, ?_, hk⟩ <;> omega
 ·rw [lineOk_9 h1] at h; simp [inI] at h; refine ⟨?_, ?_, ?_, hk⟩ <;> omega
end Plain
end Go.Proofs.YtgdihceikhkddaaDoor
