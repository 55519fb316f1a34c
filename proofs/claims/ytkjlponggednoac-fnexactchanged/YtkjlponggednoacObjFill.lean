/- A struct of seven cells is laid into a box. -/
import Derived.Test.YtkjlponggednoacObjK
namespace Go.Proofs.Ytkjlponggednoac
open Go.RowKit
set_option linter.unusedVariables false

structure Filled (W : World) (r : Nat) (t : TypeId) (us : List Value) (U : World) : Prop where
  obj : HasObj U r t us
  other : ∀ {b : Nat} {t' : TypeId} {vs : List Value}, b ≠ r → HasObj W b t' vs → HasObj U b t' vs
  row : ∀ {e : TypeId} {base size k : Nat} {v : Value} {xs : List Value}, t ≠ e → W.ownsRow base e size v k xs → U.ownsRow base e size v k xs
  below : ∀ {n : Nat} {w : World}, n ≤ r → Below n w W → Below n w U
  size : U.heap.size = W.heap.size
theorem fill7 {W : World} {r : Nat} {t : TypeId} {v0 v1 v2 v3 v4 v5 v6 : Value} (h : HasObj W r t [v0, v1, v2, v3, v4, v5, v6]) (u0 u1 u2 u3 u4 u5 u6 : Value) :
    Filled W r t [u0, u1, u2, u3, u4, u5, u6] (((((((W.setCell ⟨r, 0, none⟩ u0).setCell ⟨r, 1, none⟩ u1).setCell ⟨r, 2, none⟩ u2).setCell ⟨r, 3, none⟩ u3).setCell ⟨r, 4, none⟩ u4).setCell ⟨r, 5, none⟩ u5).setCell ⟨r, 6, none⟩ u6) := by
  have h1 := h.set 0 u0
  have h2 := h1.set 1 u1
  have h3 := h2.set 2 u2
  have h4 := h3.set 3 u3
  have h5 := h4.set 4 u4
  have h6 := h5.set 5 u5
  have h7 := h6.set 6 u6
  refine ⟨h7, fun hne hb => ?_, fun hte hr => ?_, fun hn hb => ?_, by simp⟩
  · exact (((((((hb.other (j := 0) hne u0).other (j := 1) hne u1).other (j := 2) hne u2).other (j := 3) hne u3).other (j := 4) hne u4).other (j := 5) hne u5).other (j := 6) hne u6)
  · exact (h6.row (j := 6) hte (h5.row (j := 5) hte (h4.row (j := 4) hte (h3.row (j := 3) hte (h2.row (j := 2) hte (h1.row (j := 1) hte (h.row (j := 0) hte hr u0) u1) u2) u3) u4) u5) u6)
  · exact (((((((hb.setCell (p := ⟨r, 0, none⟩) hn u0).setCell (p := ⟨r, 1, none⟩) hn u1).setCell (p := ⟨r, 2, none⟩) hn u2).setCell (p := ⟨r, 3, none⟩) hn u3).setCell (p := ⟨r, 4, none⟩) hn u4).setCell (p := ⟨r, 5, none⟩) hn u5).setCell (p := ⟨r, 6, none⟩) hn u6)
end Go.Proofs.Ytkjlponggednoac
