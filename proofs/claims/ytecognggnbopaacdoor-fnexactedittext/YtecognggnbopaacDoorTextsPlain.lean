/- Texts of sets one behind the other, plainly. -/
import Derived.Test.YtecognggnbopaacDoorSetBack
import Derived.Test.YtecognggnbopaacDoorPlainA
namespace Go.Proofs.YtecognggnbopaacDoor.Plain
open Go.RowKit
set_option linter.unusedVariables false

theorem okParts_append (a b : List (List UInt8)) (last : Int) : okParts (a ++ b) last = (okParts a last && okParts b last) := by unfold okParts; rw [List.all_append]
theorem marks_append (a b : List (List UInt8)) (last : Int) (n : Nat) : marksV (a ++ b) last n = (marksV a last n || marksV b last n) := by unfold marksV; rw [List.any_append]
/-- Two texts, one behind the other. -/
theorem read_two {s t : List Rg} {last : Int} (hs : okS s = true) (hs0 : s ≠ []) (ht : okS t = true) (ht0 : t ≠ []) (hr : s.length + t.length ≤ 40) (h1 : 1 ≤ last) (h2 : last ≤ 9999) :
    readV (setTextL s ++ 44 :: setTextL t) last = (setOf (twoB s t false), true) := by
  have e : cutsL 44 (setTextL s ++ 44 :: setTextL t) = s.map piece ++ t.map piece := by rw [cuts_append, cuts_set hs hs0, cuts_set ht ht0]
  have em : marksV (s.map piece ++ t.map piece) last = twoB s t false := by
    funext n
    rw [marks_append, marks_set hs, marks_set ht]
    rfl
  rw [readV_in (by rw [e, okParts_append, okParts_set hs, okParts_set ht]; exact ⟨h1, h2, rfl⟩), e, em]
  have hl := two_len (both := false) hs ht
  unfold setV
  rw [if_pos (by omega)]
theorem read_none : readV [] 1 = ([], false) := readV_no (by decide)
theorem itoa_five : Lib.itoa 5 = [53] := by
  rw [show (5 : Int) = ((5 : Nat) : Int) from rfl, itoa_nat, Lib.decDigits]
  decide
theorem text_five : setTextL [⟨5, 5⟩] = [53] := by
  rw [setTextL_in (by decide)]
  show [] ++ [] ++ (Lib.itoa 5 ++ []) = [53]
  rw [itoa_five]
  rfl
theorem read_star : readV [42, 58, 51] 7 = ([⟨3, 7⟩], true) := by
  have e : cutsL 44 [42, 58, 51] = [[42, 58, 51]] := by decide
  have ep : partV [42, 58, 51] 7 = (3, 7, true) := by decide
  have em : marksV [[42, 58, 51]] 7 = bitsOf [⟨3, 7⟩] := by
    funext n
    unfold marksV bitsOf hasB
    rw [List.any_cons, List.any_cons, ep]
    rfl
  rw [readV_in (by rw [e]; decide), e, em]
  unfold setV
  rw [set_back (p := -1) (by decide)]
  rfl
theorem text_len {s : List Rg} : (setTextL s).length ≤ 1680 := by
  cases h : okS s with
  | false => rw [setTextL_no h]; exact Nat.zero_le _
  | true =>
    rw [setTextL_in h]
    have := textTo_len (okS_parts h).1 s.length (Nat.le_refl _)
    have := (okS_parts h).2
    omega
end Go.Proofs.YtecognggnbopaacDoor.Plain
