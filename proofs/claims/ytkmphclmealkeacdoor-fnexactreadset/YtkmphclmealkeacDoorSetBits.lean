/- Sets of numbers as marks: the specification's l05Bits and l05Set. -/
import Derived.Test.YtkmphclmealkeacDoorSetS
import Derived.Deep.AppendLies
namespace Go.Proofs.YtkmphclmealkeacDoor
open Go.RowKit
open Plain
set_option linter.unusedVariables false

namespace Plain
/-- Marks in a row. -/
def bitsRow (f : Nat → Bool) : List Value := (List.range 10001).map fun i => .bool (f i)
theorem bitsRow_length (f : Nat → Bool) : (bitsRow f).length = 10001 := by simp [bitsRow]
theorem bitsRow_get (f : Nat → Bool) {i : Nat} (h : i < 10001) : (bitsRow f)[i]? = some (.bool (f i)) := by simp [bitsRow, h]
theorem bitsRow_congr {f g : Nat → Bool} (h : ∀ i, i < 10001 → f i = g i) : bitsRow f = bitsRow g := by
  unfold bitsRow
  apply List.map_congr_left
  intro i hi
  rw [h i (List.mem_range.1 hi)]
def setBit (f : Nat → Bool) (n : Nat) (c : Bool) (i : Nat) : Bool := if i = n then c else f i
theorem bitsRow_set (f : Nat → Bool) (n : Nat) (c : Bool) : (bitsRow f).set n (.bool c) = bitsRow (setBit f n c) := by
  apply List.ext_getElem?
  intro i
  by_cases hi : i < 10001
  · rw [bitsRow_get _ hi, List.getElem?_set]
    unfold setBit
    by_cases e : n = i
    · subst e
      rw [if_pos rfl, if_pos rfl, bitsRow_length, if_pos hi]
    · rw [if_neg e, bitsRow_get _ hi, if_neg (fun h => e h.symm)]
  · rw [List.getElem?_eq_none (by rw [List.length_set, bitsRow_length]; omega), List.getElem?_eq_none (by rw [bitsRow_length]; omega)]
/-- The first k ranges, and of the next one what is below n. -/
def partB (s : List Rg) (k : Nat) (lo n : Int) (i : Nat) : Bool := bitsOf (s.take k) i || (decide (lo ≤ (i : Int)) && decide ((i : Int) < n))
theorem partB_start (s : List Rg) (k : Nat) (lo : Int) : partB s k lo lo = bitsOf (s.take k) := by
  funext i
  unfold partB
  by_cases h : lo ≤ (i : Int)
  · rw [decide_eq_false (show ¬ (i : Int) < lo by omega), Bool.and_false, Bool.or_false]
  · rw [decide_eq_false h, Bool.false_and, Bool.or_false]
theorem partB_step (s : List Rg) (k : Nat) (lo : Int) (n : Nat) (h : lo ≤ (n : Int)) : setBit (partB s k lo n) n true = partB s k lo ((n : Int) + 1) := by
  funext i
  unfold setBit partB
  by_cases e : i = n
  · subst e
    rw [if_pos rfl, decide_eq_true h, decide_eq_true (show (i : Int) < (i : Int) + 1 by omega)]; simp
  · rw [if_neg e]
    by_cases h2 : (i : Int) < n
    · rw [decide_eq_true h2, decide_eq_true (show (i : Int) < (n : Int) + 1 by omega)]
    · rw [decide_eq_false h2, decide_eq_false (show ¬ (i : Int) < (n : Int) + 1 by omega)]
theorem partB_end {s : List Rg} {k : Nat} {r : Rg} (hr : s[k]? = some r) : partB s k r.lo (r.hi + 1) = bitsOf (s.take (k + 1)) := by
  funext i
  unfold partB bitsOf
  rw [hasB_take hr]
  by_cases h : (i : Int) ≤ r.hi
  · rw [decide_eq_true h, decide_eq_true (show (i : Int) < r.hi + 1 by omega)]
  · rw [decide_eq_false h, decide_eq_false (show ¬ (i : Int) < r.hi + 1 by omega)]
theorem bitsOf_nil : bitsOf [] = fun _ => false := rfl
end Plain

theorem Tryd.infoBool : (Tryd.prog.info? 4).map (fun i => (i.zero, i.size, i.bytes)) = some (some (.bool false), 1, 1) := by kernel_rfl
def OwnBits (B : Nat) (w : World) (v : Value) (f : Nat → Bool) : Prop := w.ownsRow B 4 1 v 10001 (bitsRow f)
theorem made_bits : (madeCells (Value.bool false).cells (10001 * 1)).toList = bitsRow (fun _ => false) := by
  apply List.ext_getElem?
  intro i
  by_cases hi : i < 10001
  · rw [bitsRow_get _ hi, Array.getElem?_toList, madeCells, Array.getElem?_map, Array.getElem?_eq_getElem (by simp; omega), Array.getElem_range, Option.map_some]
    show some (#[Value.bool false][i % 1]!) = _
    rw [Nat.mod_one]
    rfl
  · rw [List.getElem?_eq_none (by simp [madeCells]; omega), List.getElem?_eq_none (by rw [bitsRow_length]; omega)]

end Go.Proofs.YtkmphclmealkeacDoor
