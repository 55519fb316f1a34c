/- What the power leaves of a disk, plainly. Nothing of the program stands here. -/
import Derived.Test.YtnlcknklghalkaaDiskPlain
namespace Go.Proofs.Ytnlcknklghalkaa.Plain

def keepN (f : Fl) (x : Int) : Int := max f.kept (min x (f.text.size : Int))
def loseF (f : Fl) (x : Int) : Fl := ⟨f.name, f.text.extract 0 (keepN f x).toNat, keepN f x⟩
def loseTo (l : List Fl) (left : List Int) (k : Nat) : List Fl := (List.range k).map fun i => loseF (l.getD i fl0) (left.getD i 0)
def loseL (l : List Fl) (left : List Int) : List Fl := loseTo l left l.length
theorem loseTo_zero (l : List Fl) (left : List Int) : loseTo l left 0 = [] := rfl
theorem loseTo_length (l : List Fl) (left : List Int) (k : Nat) : (loseTo l left k).length = k := by simp [loseTo]
theorem loseTo_succ {l : List Fl} {left : List Int} {k : Nat} {f : Fl} (h : l[k]? = some f) : loseTo l left (k + 1) = loseTo l left k ++ [loseF f (left.getD k 0)] := by
  simp [loseTo, List.range_succ, List.getD, h]
theorem keepN_bounds {f : Fl} {x : Int} (h0 : 0 ≤ f.kept) (h1 : f.kept ≤ (f.text.size : Int)) : 0 ≤ keepN f x ∧ keepN f x ≤ (f.text.size : Int) := by
  unfold keepN; omega
theorem keepN_toNat {f : Fl} {x : Int} (h0 : 0 ≤ f.kept) (h1 : f.kept ≤ (f.text.size : Int)) : (((keepN f x).toNat : Nat) : Int) = keepN f x := by
  have := keepN_bounds (x := x) h0 h1; omega
theorem DiskR.kept {l : List Fl} (h : DiskR l) {k : Nat} {f : Fl} (hf : l[k]? = some f) : 0 ≤ f.kept ∧ f.kept ≤ (f.text.size : Int) := by
  have := (h.2 k f hf).1
  unfold fileB at this
  simp at this
  exact ⟨this.1.2, this.2⟩
def lostL (l : List Fl) (left : List Int) : List Fl := if diskB l = true then loseL l left else []
end Go.Proofs.Ytnlcknklghalkaa.Plain
