/- Right disks, plainly. Nothing of the program stands here. -/
import Derived.Below
import Derived.Laws.Strings
import GoSem.Op.String
import Derived.Test.YtanapiaobpoebaaFilesPlain
namespace Go.Proofs.Ytanapiaobpoebaa.Plain

def nameB (n : ByteArray) : Bool := decide (1 ≤ n.size) && decide (n.size ≤ 8)
def fileB (f : Fl) : Bool := nameB f.name && decide (f.text.size ≤ 20000) && decide (0 ≤ f.kept) && decide (f.kept ≤ (f.text.size : Int))
def ltB (a b : ByteArray) : Bool := Op.bytesLess a.toList b.toList

theorem less_asymm : ∀ a b : List UInt8, (Op.bytesLess a b || a == b) = !Op.bytesLess b a
 | [], [] => rfl
 | [], _ :: _ => rfl
 | _ :: _, [] => rfl
 | x :: a, y :: b => by
  have ih := less_asymm a b
  simp only [Op.bytesLess]
  by_cases h : x = y
  ·subst h
   simp [← ih]
  ·have h2 : (x == y) = false := by simp [h]
   have h3 : (y == x) = false := by simp [Ne.symm h]
   by_cases h4 : x < y
   ·have h5 : ¬ y < x := by simp only [UInt8.lt_iff_toNat_lt] at *; omega
    simp [h4, h5, h3]
   ·have h5 : y < x := by
     have : x.toNat ≠ y.toNat := fun e => h (UInt8.toNat_inj.1 e)
     simp only [UInt8.lt_iff_toNat_lt] at *; omega
    simp [h4, h5, h2, h3]
theorem leB (a b : ByteArray) : (Op.bytesLess a.toList b.toList || a.toList == b.toList) = !ltB b a := less_asymm _ _

def DiskR (l : List Fl) : Prop := l.length ≤ 30 ∧ ∀ (i : Nat) (f : Fl), l[i]? = some f → fileB f = true ∧ ∀ (j : Nat) (p : Fl), j + 1 = i → l[j]? = some p → ltB p.name f.name = true
/-- The first k are right. -/
def OkTo (l : List Fl) (k : Nat) : Prop := ∀ (i : Nat) (f : Fl), i < k → l[i]? = some f → fileB f = true ∧ ∀ (j : Nat) (p : Fl), j + 1 = i → l[j]? = some p → ltB p.name f.name = true
theorem OkTo.zero (l : List Fl) : OkTo l 0 := fun i f h => by omega
theorem OkTo.all {l : List Fl} (h : OkTo l l.length) (hl : l.length ≤ 30) : DiskR l :=
 ⟨hl, fun i f hf => h i f (by
  rcases Nat.lt_or_ge i l.length with h1 | h1
  ·exact h1
  ·rw [List.getElem?_eq_none h1] at hf; cases hf) hf⟩
theorem OkTo.first {l : List Fl} {f : Fl} (hf : l[0]? = some f) (h1 : fileB f = true) : OkTo l 1 := fun i g hi hg => by
 obtain rfl : i = 0 := by omega
 rw [hf] at hg; cases hg
 exact ⟨h1, fun j p hj => by omega⟩
theorem OkTo.more {l : List Fl} {k : Nat} {f p : Fl} (h : OkTo l (k + 1)) (hf : l[k + 1]? = some f) (hp : l[k]? = some p) (h1 : fileB f = true) (h2 : ltB p.name f.name = true) : OkTo l (k + 2) := fun i g hi hg => by
 rcases Nat.lt_or_ge i (k + 1) with h3 | h3
 ·exact h i g h3 hg
 ·obtain rfl : i = k + 1 := by omega
  rw [hf] at hg; cases hg
  refine ⟨h1, fun j q hj hq => ?_⟩
  obtain rfl : j = k := by omega
  rw [hp] at hq; cases hq
  exact h2
end Go.Proofs.Ytanapiaobpoebaa.Plain
