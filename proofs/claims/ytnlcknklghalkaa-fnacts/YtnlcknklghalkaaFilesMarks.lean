/- Marks in a row of files: what the laws' own helpers write and find. -/
import Derived.Test.YtnlcknklghalkaaFiles
import Derived.Test.YtnlcknklghalkaaMarks
import Derived.Test.YtnlcknklghalkaaRegion
namespace Go.Proofs.Ytnlcknklghalkaa
open Go.RowKit
open Plain
set_option linter.unusedVariables false

theorem OwnF.shape0 {B : Nat} {w : World} {v : Value} {l : List Fl} (h : OwnF B w v l) : ∃ a c, v = .slice a l.length c ∧ True := by
  unfold OwnF at h
  rcases h.2 with ⟨rfl, h0⟩ | ⟨g, c, cur, rfl, _⟩
  · exact ⟨none, 0, by rw [h0], trivial⟩
  · exact ⟨_, _, rfl, trivial⟩

theorem grown_then {w w1 w2 : World} {row : Option Nat} (h : w.grownBy w1 row) (hb : Below w1.heap.size w1 w2) : w.grownBy w2 row :=
  ⟨hb.os.trans h.os, hb.tape.trans h.tape, hb.output.trans h.output, Nat.le_trans h.size hb.size, fun k hk hne => (hb.block k (Nat.lt_of_lt_of_le hk h.size)).trans (h.block k hk hne)⟩
theorem grown_store {w w1 : World} {g j : Nat} (h : w.grownBy w1 (some g)) (u : Value) : w.grownBy (w1.setCell ⟨g, j, none⟩ u) (some g) :=
  ⟨h.os, h.tape, h.output, by simpa using h.size, fun k hk hne => (Below.heap_setCell _ _ _ k (fun e => hne (by rw [e]))).trans (h.block k hk hne)⟩
theorem grown_self (w : World) (row : Option Nat) : w.grownBy w row := ⟨rfl, rfl, rfl, Nat.le_refl _, fun _ _ _ => rfl⟩
theorem below_then_grown {w w1 w2 : World} {row : Option Nat} (hb : Below w.heap.size w w1) (h : w1.grownBy w2 row) : w.grownBy w2 row :=
  ⟨h.os.trans hb.os, h.tape.trans hb.tape, h.output.trans hb.output, Nat.le_trans hb.size h.size, fun k hk hne => (h.block k (Nat.lt_of_lt_of_le hk hb.size) hne).trans (hb.block k hk)⟩

def markF (k : Nat) : Fl := ⟨⟨(mkL k).toArray⟩, ⟨(mkL (k + 1)).toArray⟩, ((k + 2 : Nat) : Int)⟩
def marksF (k0 n : Nat) : List Fl := (List.range n).map fun i => markF (k0 + i * 3)
def markedF (k0 : Nat) (l : List Fl) (k : Nat) : List Fl := marksF k0 k ++ l.drop k
theorem marksF_length (k0 n : Nat) : (marksF k0 n).length = n := by simp [marksF]
theorem marksF_get {k0 n i : Nat} (h : i < n) : (marksF k0 n)[i]? = some (markF (k0 + i * 3)) := by simp [marksF, h]
theorem markedF_zero (k0 : Nat) (l : List Fl) : markedF k0 l 0 = l := by simp [markedF, marksF]
theorem markedF_all (k0 : Nat) (l : List Fl) : markedF k0 l l.length = marksF k0 l.length := by simp [markedF]
theorem markedF_length {k0 k : Nat} {l : List Fl} (h : k ≤ l.length) : (markedF k0 l k).length = l.length := by simp [markedF, marksF_length]; omega
theorem markedF_set {k0 k : Nat} {l : List Fl} (h : k < l.length) : (markedF k0 l k).set k (markF (k0 + k * 3)) = markedF k0 l (k + 1) := by
  unfold markedF
  rw [List.set_append_right _ _ (by rw [marksF_length]; omega), marksF_length, Nat.sub_self, List.drop_eq_getElem_cons h, List.set_cons_zero]
  simp [marksF, List.range_succ]

end Go.Proofs.Ytnlcknklghalkaa
