/- LineOk, both. Made by gen_line.py. -/
import Derived.Test.YtgdihceikhkddaaDoorLnOkI
import Derived.Test.YtgdihceikhkddaaDoorLnOkS
namespace Go.Proofs.YtgdihceikhkddaaDoor
open Go.RowKit Go.ChangeShapes Go.WideShapes Go.ChangeAt Go.Deep
open Plain
set_option linter.unusedVariables false
set_option linter.unusedSimpArgs false

theorem impl_LineOk_any (x : Ln) (v : Value) (B : Nat) (w : World) (hs : x.set.length ≤ 1048576) (hr : OwnR B w v x.set) :
  Calls Tryd.prog 15 #[lnV x v] w fun e w' => e = .returned (.bool (lineOk x)) ∧ Below w.heap.size w w' := by
 obtain ⟨a, c, rfl⟩ := g_shape hr
 obtain ⟨kind, num, uid, flags, mod, set, all⟩ := x
 cases h : inI kind 1 9 with
 | false => exact lineOkI0 kind h num uid flags mod set all _ a c w hs rfl hr.wide
 | true =>
  rcases kinds9 h with h | h | h | h | h | h | h | h | h <;> subst h
  ·exact lineOkI1 num uid flags mod set all _ a c w hs rfl hr.wide
  ·exact lineOkI2 num uid flags mod set all _ a c w hs rfl hr.wide
  ·exact lineOkI3 num uid flags mod set all _ a c w hs rfl hr.wide
  ·exact lineOkI4 num uid flags mod set all _ a c w hs rfl hr.wide
  ·exact lineOkI5 num uid flags mod set all _ a c w hs rfl hr.wide
  ·exact lineOkI6 num uid flags mod set all _ a c w hs rfl hr.wide
  ·exact lineOkI7 num uid flags mod set all _ a c w hs rfl hr.wide
  ·exact lineOkI8 num uid flags mod set all _ a c w hs rfl hr.wide
  ·exact lineOkI9 num uid flags mod set all _ a c w hs rfl hr.wide
theorem spec_LineOk_any (x : Ln) (v : Value) (B : Nat) (w : World) (hs : x.set.length ≤ 1048576) (hr : OwnR B w v x.set) :
  Calls Tryd.prog 10 #[lnV x v] w fun e w' => e = .returned (.bool (lineOk x)) ∧ Below w.heap.size w w' := by
 obtain ⟨a, c, rfl⟩ := g_shape hr
 obtain ⟨kind, num, uid, flags, mod, set, all⟩ := x
 exact lineOkS kind num uid flags mod set all _ a c B w hs rfl hr
end Go.Proofs.YtgdihceikhkddaaDoor
