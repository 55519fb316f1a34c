/- The walk of FnExactEditOk. Made by gen_edit.py. -/
import Derived.Test.YtecognggnbopaacDoorEdPlain
import Derived.Test.YtecognggnbopaacDoorEdOkS
import Derived.Test.YtecognggnbopaacDoorEdOkA
import Derived.Test.YtecognggnbopaacDoorEdOkB
namespace Go.Proofs.YtecognggnbopaacDoor
open Go.RowKit Go.ChangeShapes Go.WideShapes Go.ChangeAt Go.Deep
open Plain
set_option linter.unusedVariables false
set_option linter.unusedSimpArgs false

theorem OwnR.drew {B : Nat} {W : World} {v : Value} {l : List Rg} (h : OwnR B W v l) : OwnR B W.drew v l := h
theorem impl_EditOk_any (e : Ed) (v : Value) (B : Nat) (w : World) (hs : SmallEd 1048576 e) (hr : OwnR B w v e.set) :
    Calls Tryd.prog 15 #[edV e v] w fun x w' => x = .returned (.bool (okE e)) ∧ Below w.heap.size w w' := by
  obtain ⟨a, c, rfl⟩ := g_shape hr
  cases h : inI e.kind 1 8 with
  | false => rw [okE_no h]; exact okI0 e a c w h
  | true =>
    rcases kinds h with h | h | h | h | h | h | h | h
    · rw [okE_1 h]; exact okI1 e a c w h hs hr.wide
    · rw [okE_2 h]; exact okI2 e a c w h hs hr.wide
    · rw [okE_3 h]; exact okI3 e a c w h hs hr.wide
    · rw [okE_4 h]; exact okI4 e a c w h hs hr.wide
    · rw [okE_5 h]; exact okI5 e a c w h hs hr.wide
    · rw [okE_6 h]; exact okI6 e a c w h hs hr.wide
    · rw [okE_7 h]; exact okI7 e a c w h hs hr.wide
    · rw [okE_8 h]; exact okI8 e a c w h hs hr.wide
theorem spec_EditOk_any (e : Ed) (v : Value) (B : Nat) (w : World) (hs : SmallEd 1048576 e) (hr : OwnR B w v e.set) :
    Calls Tryd.prog 10 #[edV e v] w fun x w' => x = .returned (.bool (okE e)) ∧ Below w.heap.size w w' := by
  obtain ⟨a, c, rfl⟩ := g_shape hr
  cases h : inI e.kind 1 8 with
  | false => rw [okE_no h]; exact okS0 e a c w h
  | true =>
    rcases kinds h with h | h | h | h | h | h | h | h
    · rw [okE_1 h, ← both_1 e]; exact okS1 e a c B w h hs hr
    · rw [okE_2 h, ← both_2 e]; exact okS2 e a c B w h hs hr
    · rw [okE_3 h, ← both_3 e]; exact okS3 e a c B w h hs hr
    · rw [okE_4 h, ← both_4 e]; exact okS4 e a c B w h hs hr
    · rw [okE_5 h, ← both_5 e]; exact okS5 e a c B w h hs hr
    · rw [okE_6 h, ← both_6 e]; exact okS6 e a c B w h hs hr
    · rw [okE_7 h, ← both_7 e]; exact okS7 e a c B w h hs hr
    · rw [okE_8 h, ← both_8 e]; exact okS8 e a c B w h hs hr
end Go.Proofs.YtecognggnbopaacDoor
